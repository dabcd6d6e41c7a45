/-
  The law ExactNear: the walk.
-/
import Derived.Test.YtfgopmgmmpkbeaaEwI
namespace Go.Proofs.Ytfgopmgmmpkbeaa
open Go.RowKit

set_option maxRecDepth 100000 in
set_option maxHeartbeats 4000000 in
theorem near_no {s : Int} (h : Sn s) (m e : Int) (w : World) : Calls Try.prog 5 #[.int .u64 m, .int .i64 e, .int .i64 s] w fun x w' => x = .returned (.bool true) ∧ w' = w := by
  have A := fun W => of_no h m e W
  have N := fun W => num_errno 5 W
  have S := fun W => works_any W
  have h1 : (s != 32) = true := bne_iff_ne.mpr h.1
  have h2 : (s != 64) = true := bne_iff_ne.mpr h.2
  clear h
  go_enter Try.func5, Try.ntmps5
  go_wp2_with fail
  refine (A _).mono ?_
  rintro x w1 ⟨rfl, rfl⟩
  go_wp2_with fail
  refine (N _).mono ?_
  rintro x w1 ⟨rfl, rfl⟩
  go_wp2_with fail
  refine (S _).mono ?_
  rintro x w1 ⟨rfl, rfl⟩
  go_wp2
  go_ret
  exact ⟨rfl, rfl⟩
set_option maxRecDepth 100000 in
set_option maxHeartbeats 4000000 in
theorem near_un32 {m e : Int} (A : ∀ W, Calls Try.prog 6 #[.int .u64 m, .int .i64 e, .int .i64 32] W fun x w' => x = .returned (.tuple #[.int .u64 0, .bool false, .nilIface]) ∧ w' = W) (w : World) : Calls Try.prog 5 #[.int .u64 m, .int .i64 e, .int .i64 32] w fun x w' => x = .returned (.bool true) ∧ w' = w := by
  have S := fun W => works_any W
  go_enter Try.func5, Try.ntmps5
  go_wp2_with fail
  refine (A _).mono ?_
  rintro x w1 ⟨rfl, rfl⟩
  go_wp2_with fail
  refine (S _).mono ?_
  rintro x w1 ⟨rfl, rfl⟩
  go_wp2
  go_ret
  exact ⟨rfl, rfl⟩
set_option maxRecDepth 100000 in
set_option maxHeartbeats 4000000 in
theorem near_zero32 {e : Int} (A : ∀ W, Calls Try.prog 6 #[.int .u64 0, .int .i64 e, .int .i64 32] W fun x w' => x = .returned (.tuple #[.int .u64 0, .bool true, .nilIface]) ∧ w' = W) (w : World) : Calls Try.prog 5 #[.int .u64 0, .int .i64 e, .int .i64 32] w fun x w' => x = .returned (.bool true) ∧ w' = w := by
  have S := fun W => works_any W
  go_enter Try.func5, Try.ntmps5
  go_wp2_with fail
  refine (A _).mono ?_
  rintro x w1 ⟨rfl, rfl⟩
  go_wp2_with fail
  refine (S _).mono ?_
  rintro x w1 ⟨rfl, rfl⟩
  go_wp2
  go_ret
  exact ⟨rfl, rfl⟩
set_option maxRecDepth 100000 in
set_option maxHeartbeats 4000000 in
theorem near_un64 {m e : Int} (A : ∀ W, Calls Try.prog 6 #[.int .u64 m, .int .i64 e, .int .i64 64] W fun x w' => x = .returned (.tuple #[.int .u64 0, .bool false, .nilIface]) ∧ w' = W) (w : World) : Calls Try.prog 5 #[.int .u64 m, .int .i64 e, .int .i64 64] w fun x w' => x = .returned (.bool true) ∧ w' = w := by
  have S := fun W => works_any W
  go_enter Try.func5, Try.ntmps5
  go_wp2_with fail
  refine (A _).mono ?_
  rintro x w1 ⟨rfl, rfl⟩
  go_wp2_with fail
  refine (S _).mono ?_
  rintro x w1 ⟨rfl, rfl⟩
  go_wp2
  go_ret
  exact ⟨rfl, rfl⟩
set_option maxRecDepth 100000 in
set_option maxHeartbeats 4000000 in
theorem near_zero64 {e : Int} (A : ∀ W, Calls Try.prog 6 #[.int .u64 0, .int .i64 e, .int .i64 64] W fun x w' => x = .returned (.tuple #[.int .u64 0, .bool true, .nilIface]) ∧ w' = W) (w : World) : Calls Try.prog 5 #[.int .u64 0, .int .i64 e, .int .i64 64] w fun x w' => x = .returned (.bool true) ∧ w' = w := by
  have S := fun W => works_any W
  go_enter Try.func5, Try.ntmps5
  go_wp2_with fail
  refine (A _).mono ?_
  rintro x w1 ⟨rfl, rfl⟩
  go_wp2_with fail
  refine (S _).mono ?_
  rintro x w1 ⟨rfl, rfl⟩
  go_wp2
  go_ret
  exact ⟨rfl, rfl⟩
set_option maxRecDepth 100000 in
set_option maxHeartbeats 4000000 in
theorem near_up64 {m k b f g n T : Nat} {L : Int} (hz : Fz 64 g n f T L) (m0 : m ≠ 0) (hm : m ≤ 9007199254740992) (hk : k ≤ 22) (hb : b < n)
    (A : ∀ W, Calls Try.prog 6 #[.int .u64 (m : Int), .int .i64 (k : Int), .int .i64 64] W fun x w' => x = .returned (.tuple #[.int .u64 (b : Int), .bool true, .nilIface]) ∧ w' = W)
    (R : RD f L (m * 10 ^ k) 1 0 false b) (w : World) : Calls Try.prog 5 #[.int .u64 (m : Int), .int .i64 (k : Int), .int .i64 64] w fun x w' => x = .returned (.bool true) ∧ Below w.heap.size w w' := by
  have S := fun W => works_any W
  have S1 := fun W => small_nat m (by unfold B; omega) W
  have S2 := fun W => small_nat 1 (by unfold B; decide) W
  rw [show ((1 : Nat) : Int) = 1 from rfl] at S2
  have S3 := fun W => raised_far 10 k (by decide) (by decide) (by omega) W
  rw [show ((10 : Nat) : Int) = 10 from rfl] at S3
  have FF : Hid (Fits 1000 m ∧ Fits 1000 (10 ^ k) ∧ Fits 1000 1) := ⟨fits_ten (k := 16) (by omega) (by decide), fits_far (by decide) (by omega), fits_ten (k := 1) (by decide) (by decide)⟩
  have FX : Hid (Fits 1000 (m * 10 ^ k)) := by
    refine fits_ten (k := 16 + k) ?_ (by omega)
    rw [Nat.pow_add]
    exact Nat.mul_le_mul_right _ (by omega)
  have H := fun W => half14 hz hb W
  have HR : Hid (RD f L (m * 10 ^ k) 1 0 false b) := R
  have HH : Hid (b ≠ 0 → ∀ W, Calls Try.prog 20 #[.int .u64 ((b : Int) - 1), .int .i64 64] W fun x w' => ∃ (v1 v2 : Value) (N D : Nat), x = .returned (.tuple #[v1, v2, .int .i64 0]) ∧ NatV w' v1 N ∧ NatV w' v2 D ∧ Frc N D (hM f (b - 1)) (hX f L (b - 1)) ∧ Below W.heap.size W w') := fun z W => by
    have h := half14 hz (b := b - 1) (by omega) W
    rw [show ((b - 1 : Nat) : Int) = (b : Int) - 1 from by omega] at h
    exact h
  have b64 : b < 18446744073709551616 := by have := fz_parts hz; omega
  have c0 : ((m : Int) == 0) = false := by simp; omega
  have c1 : ¬ 400 < (k : Int) := by omega
  have c2 : ¬ (k : Int) < -400 := by omega
  have c3 : (0 : Int) ≤ (k : Int) := by omega
  clear m0 hm hz hb R
  go_enter Try.func5, Try.ntmps5
  go_wp2_with fail
  refine (A _).mono ?_
  rintro x w ⟨rfl, rfl⟩
  go_wp2_with fail
  refine (S1 _).mono ?_
  rintro x w1 ⟨v1, rfl, n1, b1⟩
  have N1 : Hid (Big.NatV w1 v1 m ∧ Below w.heap.size w w1) := ⟨n1, b1⟩
  clear b1
  clear n1 S1
  go_wp2_with fail
  refine (S2 _).mono ?_
  rintro x w2 ⟨v2, rfl, n2, b2⟩
  have N2 : Hid (Big.NatV w2 v2 1 ∧ Big.NatV w2 v1 m ∧ Below w.heap.size w w2) := ⟨n2, N1.out.1.below b2, N1.out.2.trans (b2.mono N1.out.2.size)⟩
  clear b2 N1
  clear n2 S2
  go_wp2_with fail
  refine (S3 _).mono ?_
  rintro x w3 ⟨v3, rfl, n3, b3⟩
  have N3 : Hid (Big.NatV w3 v3 (10 ^ k) ∧ Big.NatV w3 v2 1 ∧ Big.NatV w3 v1 m ∧ Below w.heap.size w w3) := ⟨n3, N2.out.1.below b3, N2.out.2.1.below b3, N2.out.2.2.trans (b3.mono N2.out.2.2.size)⟩
  clear b3 N2
  clear n3 S3
  have T := times_nat N3.out.2.2.1 N3.out.1 FF.out.1 FF.out.2.1
  go_wp2_with fail
  refine T.mono ?_
  rintro x w4 ⟨v4, rfl, n4, b4⟩
  have N4 : Hid (Big.NatV w4 v4 (m * 10 ^ k) ∧ Big.NatV w4 v3 (10 ^ k) ∧ Big.NatV w4 v2 1 ∧ Big.NatV w4 v1 m ∧ Below w.heap.size w w4) := ⟨n4, N3.out.1.below b4, N3.out.2.1.below b4, N3.out.2.2.1.below b4, N3.out.2.2.2.trans (b4.mono N3.out.2.2.2.size)⟩
  clear b4 N3
  clear n4 T
  go_wp2_with fail
  refine (H _).mono ?_
  rintro x w5 ⟨pa, qa, Na, Da, rfl, y1, y2, y3, y4⟩
  have N5 : Hid (NatV w5 pa Na ∧ NatV w5 qa Da ∧ Big.NatV w5 v4 (m * 10 ^ k) ∧ Big.NatV w5 v3 (10 ^ k) ∧ Big.NatV w5 v2 1 ∧ Big.NatV w5 v1 m ∧ Below w.heap.size w w5) := ⟨y1, y2, N4.out.1.below y4, N4.out.2.1.below y4, N4.out.2.2.1.below y4, N4.out.2.2.2.1.below y4, N4.out.2.2.2.2.trans (y4.mono N4.out.2.2.2.2.size)⟩
  clear y4 N4
  have Fa : Hid (Frc Na Da (hM f b) (hX f L b)) := y3
  clear y1 y2 y3
  obtain ⟨-, fDa, T⟩ := of_nat N5.out.2.1
  have GDa : Hid (Fits 1000 Da) := fDa.up (by decide)
  clear fDa
  go_wp2_with fail
  refine T.mono ?_
  rintro x w6 ⟨ra, rfl, y1, y2⟩
  have N6 : Hid (Big.NatV w6 ra Da ∧ NatV w6 pa Na ∧ NatV w6 qa Da ∧ Big.NatV w6 v4 (m * 10 ^ k) ∧ Big.NatV w6 v3 (10 ^ k) ∧ Big.NatV w6 v2 1 ∧ Big.NatV w6 v1 m ∧ Below w.heap.size w w6) := ⟨y1, N5.out.1.below y2, N5.out.2.1.below y2, N5.out.2.2.1.below y2, N5.out.2.2.2.1.below y2, N5.out.2.2.2.2.1.below y2, N5.out.2.2.2.2.2.1.below y2, N5.out.2.2.2.2.2.2.trans (y2.mono N5.out.2.2.2.2.2.2.size)⟩
  clear y2 N5
  clear y1 T
  have T := times_nat N6.out.2.2.2.1 N6.out.1 FX.out GDa.out
  go_wp2_with fail
  refine T.mono ?_
  rintro x w7 ⟨sa, rfl, y1, y2⟩
  have N7 : Hid (Big.NatV w7 sa ((m * 10 ^ k) * Da) ∧ Big.NatV w7 ra Da ∧ NatV w7 pa Na ∧ NatV w7 qa Da ∧ Big.NatV w7 v4 (m * 10 ^ k) ∧ Big.NatV w7 v3 (10 ^ k) ∧ Big.NatV w7 v2 1 ∧ Big.NatV w7 v1 m ∧ Below w.heap.size w w7) := ⟨y1, N6.out.1.below y2, N6.out.2.1.below y2, N6.out.2.2.1.below y2, N6.out.2.2.2.1.below y2, N6.out.2.2.2.2.1.below y2, N6.out.2.2.2.2.2.1.below y2, N6.out.2.2.2.2.2.2.1.below y2, N6.out.2.2.2.2.2.2.2.trans (y2.mono N6.out.2.2.2.2.2.2.2.size)⟩
  clear y2 N6
  clear y1 T
  obtain ⟨-, fNa, T⟩ := of_nat N7.out.2.2.1
  have GNa : Hid (Fits 1000 Na) := fNa.up (by decide)
  clear fNa
  go_wp2_with fail
  refine T.mono ?_
  rintro x w8 ⟨ta, rfl, y1, y2⟩
  have N8 : Hid (Big.NatV w8 ta Na ∧ Big.NatV w8 sa ((m * 10 ^ k) * Da) ∧ Big.NatV w8 ra Da ∧ NatV w8 pa Na ∧ NatV w8 qa Da ∧ Big.NatV w8 v4 (m * 10 ^ k) ∧ Big.NatV w8 v3 (10 ^ k) ∧ Big.NatV w8 v2 1 ∧ Big.NatV w8 v1 m ∧ Below w.heap.size w w8) := ⟨y1, N7.out.1.below y2, N7.out.2.1.below y2, N7.out.2.2.1.below y2, N7.out.2.2.2.1.below y2, N7.out.2.2.2.2.1.below y2, N7.out.2.2.2.2.2.1.below y2, N7.out.2.2.2.2.2.2.1.below y2, N7.out.2.2.2.2.2.2.2.1.below y2, N7.out.2.2.2.2.2.2.2.2.trans (y2.mono N7.out.2.2.2.2.2.2.2.2.size)⟩
  clear y2 N7
  clear y1 T
  have T := times_nat N8.out.1 N8.out.2.2.2.2.2.2.2.1 GNa.out FF.out.2.2
  go_wp2_with fail
  refine T.mono ?_
  rintro x w9 ⟨ua, rfl, y1, y2⟩
  have N9 : Hid (Big.NatV w9 ua (Na * 1) ∧ Big.NatV w9 ta Na ∧ Big.NatV w9 sa ((m * 10 ^ k) * Da) ∧ Big.NatV w9 ra Da ∧ NatV w9 pa Na ∧ NatV w9 qa Da ∧ Big.NatV w9 v4 (m * 10 ^ k) ∧ Big.NatV w9 v3 (10 ^ k) ∧ Big.NatV w9 v2 1 ∧ Big.NatV w9 v1 m ∧ Below w.heap.size w w9) := ⟨y1, N8.out.1.below y2, N8.out.2.1.below y2, N8.out.2.2.1.below y2, N8.out.2.2.2.1.below y2, N8.out.2.2.2.2.1.below y2, N8.out.2.2.2.2.2.1.below y2, N8.out.2.2.2.2.2.2.1.below y2, N8.out.2.2.2.2.2.2.2.1.below y2, N8.out.2.2.2.2.2.2.2.2.1.below y2, N8.out.2.2.2.2.2.2.2.2.2.trans (y2.mono N8.out.2.2.2.2.2.2.2.2.2.size)⟩
  clear y2 N8
  clear y1 T
  have T := bcmp_nat N9.out.2.2.1 N9.out.1
  rcases up_ord Fa.out HR.out.1 with ec | ⟨ec, ev⟩
  · rw [ec] at T
    clear ec
    go_wp2_with fail
    refine T.mono ?_
    rintro x w10 ⟨rfl, y2⟩
    have N10 : Hid (Big.NatV w10 ua (Na * 1) ∧ Big.NatV w10 ta Na ∧ Big.NatV w10 sa ((m * 10 ^ k) * Da) ∧ Big.NatV w10 ra Da ∧ NatV w10 pa Na ∧ NatV w10 qa Da ∧ Big.NatV w10 v4 (m * 10 ^ k) ∧ Big.NatV w10 v3 (10 ^ k) ∧ Big.NatV w10 v2 1 ∧ Big.NatV w10 v1 m ∧ Below w.heap.size w w10) := ⟨N9.out.1.below y2, N9.out.2.1.below y2, N9.out.2.2.1.below y2, N9.out.2.2.2.1.below y2, N9.out.2.2.2.2.1.below y2, N9.out.2.2.2.2.2.1.below y2, N9.out.2.2.2.2.2.2.1.below y2, N9.out.2.2.2.2.2.2.2.1.below y2, N9.out.2.2.2.2.2.2.2.2.1.below y2, N9.out.2.2.2.2.2.2.2.2.2.1.below y2, N9.out.2.2.2.2.2.2.2.2.2.2.trans (y2.mono N9.out.2.2.2.2.2.2.2.2.2.2.size)⟩
    clear y2 N9
    clear T
    by_cases z : b = 0
    · subst z
      go_wp2_with fail
      refine (S _).mono ?_
      rintro x w10 ⟨rfl, rfl⟩
      go_wp2
      go_ret
      exact ⟨rfl, N10.out.2.2.2.2.2.2.2.2.2.2⟩
    · have z0 : ((b : Int) == 0) = false := by simp; omega
      have H1 := HH.out z
      have UD : Hid (¬ Up f L (m * 10 ^ k) 1 0 false (b - 1)) := HR.out.2.resolve_left z
      have z1 : 1 ≤ b := by omega
      clear z
      go_wp2_with fail
      refine (H1 _).mono ?_
      rintro x w11 ⟨pc, qc, Nc, Dc, rfl, y1, y2, y3, y4⟩
      have N11 : Hid (NatV w11 pc Nc ∧ NatV w11 qc Dc ∧ Big.NatV w11 ua (Na * 1) ∧ Big.NatV w11 ta Na ∧ Big.NatV w11 sa ((m * 10 ^ k) * Da) ∧ Big.NatV w11 ra Da ∧ NatV w11 pa Na ∧ NatV w11 qa Da ∧ Big.NatV w11 v4 (m * 10 ^ k) ∧ Big.NatV w11 v3 (10 ^ k) ∧ Big.NatV w11 v2 1 ∧ Big.NatV w11 v1 m ∧ Below w.heap.size w w11) := ⟨y1, y2, N10.out.1.below y4, N10.out.2.1.below y4, N10.out.2.2.1.below y4, N10.out.2.2.2.1.below y4, N10.out.2.2.2.2.1.below y4, N10.out.2.2.2.2.2.1.below y4, N10.out.2.2.2.2.2.2.1.below y4, N10.out.2.2.2.2.2.2.2.1.below y4, N10.out.2.2.2.2.2.2.2.2.1.below y4, N10.out.2.2.2.2.2.2.2.2.2.1.below y4, N10.out.2.2.2.2.2.2.2.2.2.2.trans (y4.mono N10.out.2.2.2.2.2.2.2.2.2.2.size)⟩
      clear y4 N10
      have Fc : Hid (Frc Nc Dc (hM f (b - 1)) (hX f L (b - 1))) := y3
      clear y1 y2 y3
      obtain ⟨-, fDc, T⟩ := of_nat N11.out.2.1
      have GDc : Hid (Fits 1000 Dc) := fDc.up (by decide)
      clear fDc
      go_wp2_with fail
      refine T.mono ?_
      rintro x w12 ⟨rc, rfl, y1, y2⟩
      have N12 : Hid (Big.NatV w12 rc Dc ∧ NatV w12 pc Nc ∧ NatV w12 qc Dc ∧ Big.NatV w12 ua (Na * 1) ∧ Big.NatV w12 ta Na ∧ Big.NatV w12 sa ((m * 10 ^ k) * Da) ∧ Big.NatV w12 ra Da ∧ NatV w12 pa Na ∧ NatV w12 qa Da ∧ Big.NatV w12 v4 (m * 10 ^ k) ∧ Big.NatV w12 v3 (10 ^ k) ∧ Big.NatV w12 v2 1 ∧ Big.NatV w12 v1 m ∧ Below w.heap.size w w12) := ⟨y1, N11.out.1.below y2, N11.out.2.1.below y2, N11.out.2.2.1.below y2, N11.out.2.2.2.1.below y2, N11.out.2.2.2.2.1.below y2, N11.out.2.2.2.2.2.1.below y2, N11.out.2.2.2.2.2.2.1.below y2, N11.out.2.2.2.2.2.2.2.1.below y2, N11.out.2.2.2.2.2.2.2.2.1.below y2, N11.out.2.2.2.2.2.2.2.2.2.1.below y2, N11.out.2.2.2.2.2.2.2.2.2.2.1.below y2, N11.out.2.2.2.2.2.2.2.2.2.2.2.1.below y2, N11.out.2.2.2.2.2.2.2.2.2.2.2.2.trans (y2.mono N11.out.2.2.2.2.2.2.2.2.2.2.2.2.size)⟩
      clear y2 N11
      clear y1 T
      have T := times_nat N12.out.2.2.2.2.2.2.2.2.2.1 N12.out.1 FX.out GDc.out
      go_wp2_with fail
      refine T.mono ?_
      rintro x w13 ⟨sc, rfl, y1, y2⟩
      have N13 : Hid (Big.NatV w13 sc ((m * 10 ^ k) * Dc) ∧ Big.NatV w13 rc Dc ∧ NatV w13 pc Nc ∧ NatV w13 qc Dc ∧ Big.NatV w13 ua (Na * 1) ∧ Big.NatV w13 ta Na ∧ Big.NatV w13 sa ((m * 10 ^ k) * Da) ∧ Big.NatV w13 ra Da ∧ NatV w13 pa Na ∧ NatV w13 qa Da ∧ Big.NatV w13 v4 (m * 10 ^ k) ∧ Big.NatV w13 v3 (10 ^ k) ∧ Big.NatV w13 v2 1 ∧ Big.NatV w13 v1 m ∧ Below w.heap.size w w13) := ⟨y1, N12.out.1.below y2, N12.out.2.1.below y2, N12.out.2.2.1.below y2, N12.out.2.2.2.1.below y2, N12.out.2.2.2.2.1.below y2, N12.out.2.2.2.2.2.1.below y2, N12.out.2.2.2.2.2.2.1.below y2, N12.out.2.2.2.2.2.2.2.1.below y2, N12.out.2.2.2.2.2.2.2.2.1.below y2, N12.out.2.2.2.2.2.2.2.2.2.1.below y2, N12.out.2.2.2.2.2.2.2.2.2.2.1.below y2, N12.out.2.2.2.2.2.2.2.2.2.2.2.1.below y2, N12.out.2.2.2.2.2.2.2.2.2.2.2.2.1.below y2, N12.out.2.2.2.2.2.2.2.2.2.2.2.2.2.trans (y2.mono N12.out.2.2.2.2.2.2.2.2.2.2.2.2.2.size)⟩
      clear y2 N12
      clear y1 T
      obtain ⟨-, fNc, T⟩ := of_nat N13.out.2.2.1
      have GNc : Hid (Fits 1000 Nc) := fNc.up (by decide)
      clear fNc
      go_wp2_with fail
      refine T.mono ?_
      rintro x w14 ⟨tc, rfl, y1, y2⟩
      have N14 : Hid (Big.NatV w14 tc Nc ∧ Big.NatV w14 sc ((m * 10 ^ k) * Dc) ∧ Big.NatV w14 rc Dc ∧ NatV w14 pc Nc ∧ NatV w14 qc Dc ∧ Big.NatV w14 ua (Na * 1) ∧ Big.NatV w14 ta Na ∧ Big.NatV w14 sa ((m * 10 ^ k) * Da) ∧ Big.NatV w14 ra Da ∧ NatV w14 pa Na ∧ NatV w14 qa Da ∧ Big.NatV w14 v4 (m * 10 ^ k) ∧ Big.NatV w14 v3 (10 ^ k) ∧ Big.NatV w14 v2 1 ∧ Big.NatV w14 v1 m ∧ Below w.heap.size w w14) := ⟨y1, N13.out.1.below y2, N13.out.2.1.below y2, N13.out.2.2.1.below y2, N13.out.2.2.2.1.below y2, N13.out.2.2.2.2.1.below y2, N13.out.2.2.2.2.2.1.below y2, N13.out.2.2.2.2.2.2.1.below y2, N13.out.2.2.2.2.2.2.2.1.below y2, N13.out.2.2.2.2.2.2.2.2.1.below y2, N13.out.2.2.2.2.2.2.2.2.2.1.below y2, N13.out.2.2.2.2.2.2.2.2.2.2.1.below y2, N13.out.2.2.2.2.2.2.2.2.2.2.2.1.below y2, N13.out.2.2.2.2.2.2.2.2.2.2.2.2.1.below y2, N13.out.2.2.2.2.2.2.2.2.2.2.2.2.2.1.below y2, N13.out.2.2.2.2.2.2.2.2.2.2.2.2.2.2.trans (y2.mono N13.out.2.2.2.2.2.2.2.2.2.2.2.2.2.2.size)⟩
      clear y2 N13
      clear y1 T
      have T := times_nat N14.out.1 N14.out.2.2.2.2.2.2.2.2.2.2.2.2.2.1 GNc.out FF.out.2.2
      go_wp2_with fail
      refine T.mono ?_
      rintro x w15 ⟨uc, rfl, y1, y2⟩
      have N15 : Hid (Big.NatV w15 uc (Nc * 1) ∧ Big.NatV w15 tc Nc ∧ Big.NatV w15 sc ((m * 10 ^ k) * Dc) ∧ Big.NatV w15 rc Dc ∧ NatV w15 pc Nc ∧ NatV w15 qc Dc ∧ Big.NatV w15 ua (Na * 1) ∧ Big.NatV w15 ta Na ∧ Big.NatV w15 sa ((m * 10 ^ k) * Da) ∧ Big.NatV w15 ra Da ∧ NatV w15 pa Na ∧ NatV w15 qa Da ∧ Big.NatV w15 v4 (m * 10 ^ k) ∧ Big.NatV w15 v3 (10 ^ k) ∧ Big.NatV w15 v2 1 ∧ Big.NatV w15 v1 m ∧ Below w.heap.size w w15) := ⟨y1, N14.out.1.below y2, N14.out.2.1.below y2, N14.out.2.2.1.below y2, N14.out.2.2.2.1.below y2, N14.out.2.2.2.2.1.below y2, N14.out.2.2.2.2.2.1.below y2, N14.out.2.2.2.2.2.2.1.below y2, N14.out.2.2.2.2.2.2.2.1.below y2, N14.out.2.2.2.2.2.2.2.2.1.below y2, N14.out.2.2.2.2.2.2.2.2.2.1.below y2, N14.out.2.2.2.2.2.2.2.2.2.2.1.below y2, N14.out.2.2.2.2.2.2.2.2.2.2.2.1.below y2, N14.out.2.2.2.2.2.2.2.2.2.2.2.2.1.below y2, N14.out.2.2.2.2.2.2.2.2.2.2.2.2.2.1.below y2, N14.out.2.2.2.2.2.2.2.2.2.2.2.2.2.2.1.below y2, N14.out.2.2.2.2.2.2.2.2.2.2.2.2.2.2.2.trans (y2.mono N14.out.2.2.2.2.2.2.2.2.2.2.2.2.2.2.2.size)⟩
      clear y2 N14
      clear y1 T
      have T := bcmp_nat N15.out.2.2.1 N15.out.1
      rcases dn_ord Fc.out UD.out with ec | ⟨ec, ev⟩
      · rw [ec] at T
        clear ec
        go_wp2_with fail
        refine T.mono ?_
        rintro x w16 ⟨rfl, y2⟩
        have N16 : Hid (Big.NatV w16 uc (Nc * 1) ∧ Big.NatV w16 tc Nc ∧ Big.NatV w16 sc ((m * 10 ^ k) * Dc) ∧ Big.NatV w16 rc Dc ∧ NatV w16 pc Nc ∧ NatV w16 qc Dc ∧ Big.NatV w16 ua (Na * 1) ∧ Big.NatV w16 ta Na ∧ Big.NatV w16 sa ((m * 10 ^ k) * Da) ∧ Big.NatV w16 ra Da ∧ NatV w16 pa Na ∧ NatV w16 qa Da ∧ Big.NatV w16 v4 (m * 10 ^ k) ∧ Big.NatV w16 v3 (10 ^ k) ∧ Big.NatV w16 v2 1 ∧ Big.NatV w16 v1 m ∧ Below w.heap.size w w16) := ⟨N15.out.1.below y2, N15.out.2.1.below y2, N15.out.2.2.1.below y2, N15.out.2.2.2.1.below y2, N15.out.2.2.2.2.1.below y2, N15.out.2.2.2.2.2.1.below y2, N15.out.2.2.2.2.2.2.1.below y2, N15.out.2.2.2.2.2.2.2.1.below y2, N15.out.2.2.2.2.2.2.2.2.1.below y2, N15.out.2.2.2.2.2.2.2.2.2.1.below y2, N15.out.2.2.2.2.2.2.2.2.2.2.1.below y2, N15.out.2.2.2.2.2.2.2.2.2.2.2.1.below y2, N15.out.2.2.2.2.2.2.2.2.2.2.2.2.1.below y2, N15.out.2.2.2.2.2.2.2.2.2.2.2.2.2.1.below y2, N15.out.2.2.2.2.2.2.2.2.2.2.2.2.2.2.1.below y2, N15.out.2.2.2.2.2.2.2.2.2.2.2.2.2.2.2.1.below y2, N15.out.2.2.2.2.2.2.2.2.2.2.2.2.2.2.2.2.trans (y2.mono N15.out.2.2.2.2.2.2.2.2.2.2.2.2.2.2.2.2.size)⟩
        clear y2 N15
        clear T
        go_wp2_with fail
        refine (S _).mono ?_
        rintro x w16 ⟨rfl, rfl⟩
        go_wp2
        go_ret
        exact ⟨rfl, N16.out.2.2.2.2.2.2.2.2.2.2.2.2.2.2.2.2⟩
      · rw [ec] at T
        have e3 : (((b : Int)) % 2 == 0) = true := by simp; omega
        have e4 : ((b : Int).tmod 2 == 0) = true := by rw [Int.tmod_eq_emod_of_nonneg (by omega)]; exact e3
        clear ev
        clear ec
        go_wp2_with fail
        refine T.mono ?_
        rintro x w16 ⟨rfl, y2⟩
        have N16 : Hid (Big.NatV w16 uc (Nc * 1) ∧ Big.NatV w16 tc Nc ∧ Big.NatV w16 sc ((m * 10 ^ k) * Dc) ∧ Big.NatV w16 rc Dc ∧ NatV w16 pc Nc ∧ NatV w16 qc Dc ∧ Big.NatV w16 ua (Na * 1) ∧ Big.NatV w16 ta Na ∧ Big.NatV w16 sa ((m * 10 ^ k) * Da) ∧ Big.NatV w16 ra Da ∧ NatV w16 pa Na ∧ NatV w16 qa Da ∧ Big.NatV w16 v4 (m * 10 ^ k) ∧ Big.NatV w16 v3 (10 ^ k) ∧ Big.NatV w16 v2 1 ∧ Big.NatV w16 v1 m ∧ Below w.heap.size w w16) := ⟨N15.out.1.below y2, N15.out.2.1.below y2, N15.out.2.2.1.below y2, N15.out.2.2.2.1.below y2, N15.out.2.2.2.2.1.below y2, N15.out.2.2.2.2.2.1.below y2, N15.out.2.2.2.2.2.2.1.below y2, N15.out.2.2.2.2.2.2.2.1.below y2, N15.out.2.2.2.2.2.2.2.2.1.below y2, N15.out.2.2.2.2.2.2.2.2.2.1.below y2, N15.out.2.2.2.2.2.2.2.2.2.2.1.below y2, N15.out.2.2.2.2.2.2.2.2.2.2.2.1.below y2, N15.out.2.2.2.2.2.2.2.2.2.2.2.2.1.below y2, N15.out.2.2.2.2.2.2.2.2.2.2.2.2.2.1.below y2, N15.out.2.2.2.2.2.2.2.2.2.2.2.2.2.2.1.below y2, N15.out.2.2.2.2.2.2.2.2.2.2.2.2.2.2.2.1.below y2, N15.out.2.2.2.2.2.2.2.2.2.2.2.2.2.2.2.2.trans (y2.mono N15.out.2.2.2.2.2.2.2.2.2.2.2.2.2.2.2.2.size)⟩
        clear y2 N15
        clear T
        go_wp2_with fail
        refine (S _).mono ?_
        rintro x w16 ⟨rfl, rfl⟩
        go_wp2
        go_ret
        exact ⟨rfl, N16.out.2.2.2.2.2.2.2.2.2.2.2.2.2.2.2.2⟩
  · rw [ec] at T
    have e1 : (((b : Int)) % 2 == 1) = false := by simp; omega
    have e2 : ((b : Int).tmod 2 == 1) = false := by rw [Int.tmod_eq_emod_of_nonneg (by omega)]; exact e1
    have EV : Hid (b % 2 = 0) := ev
    clear ev
    clear ec
    go_wp2_with fail
    refine T.mono ?_
    rintro x w10 ⟨rfl, y2⟩
    have N10 : Hid (Big.NatV w10 ua (Na * 1) ∧ Big.NatV w10 ta Na ∧ Big.NatV w10 sa ((m * 10 ^ k) * Da) ∧ Big.NatV w10 ra Da ∧ NatV w10 pa Na ∧ NatV w10 qa Da ∧ Big.NatV w10 v4 (m * 10 ^ k) ∧ Big.NatV w10 v3 (10 ^ k) ∧ Big.NatV w10 v2 1 ∧ Big.NatV w10 v1 m ∧ Below w.heap.size w w10) := ⟨N9.out.1.below y2, N9.out.2.1.below y2, N9.out.2.2.1.below y2, N9.out.2.2.2.1.below y2, N9.out.2.2.2.2.1.below y2, N9.out.2.2.2.2.2.1.below y2, N9.out.2.2.2.2.2.2.1.below y2, N9.out.2.2.2.2.2.2.2.1.below y2, N9.out.2.2.2.2.2.2.2.2.1.below y2, N9.out.2.2.2.2.2.2.2.2.2.1.below y2, N9.out.2.2.2.2.2.2.2.2.2.2.trans (y2.mono N9.out.2.2.2.2.2.2.2.2.2.2.size)⟩
    clear y2 N9
    clear T
    by_cases z : b = 0
    · subst z
      go_wp2_with fail
      refine (S _).mono ?_
      rintro x w10 ⟨rfl, rfl⟩
      go_wp2
      go_ret
      exact ⟨rfl, N10.out.2.2.2.2.2.2.2.2.2.2⟩
    · have z0 : ((b : Int) == 0) = false := by simp; omega
      have H1 := HH.out z
      have UD : Hid (¬ Up f L (m * 10 ^ k) 1 0 false (b - 1)) := HR.out.2.resolve_left z
      have z1 : 1 ≤ b := by omega
      clear z
      go_wp2_with fail
      refine (H1 _).mono ?_
      rintro x w11 ⟨pc, qc, Nc, Dc, rfl, y1, y2, y3, y4⟩
      have N11 : Hid (NatV w11 pc Nc ∧ NatV w11 qc Dc ∧ Big.NatV w11 ua (Na * 1) ∧ Big.NatV w11 ta Na ∧ Big.NatV w11 sa ((m * 10 ^ k) * Da) ∧ Big.NatV w11 ra Da ∧ NatV w11 pa Na ∧ NatV w11 qa Da ∧ Big.NatV w11 v4 (m * 10 ^ k) ∧ Big.NatV w11 v3 (10 ^ k) ∧ Big.NatV w11 v2 1 ∧ Big.NatV w11 v1 m ∧ Below w.heap.size w w11) := ⟨y1, y2, N10.out.1.below y4, N10.out.2.1.below y4, N10.out.2.2.1.below y4, N10.out.2.2.2.1.below y4, N10.out.2.2.2.2.1.below y4, N10.out.2.2.2.2.2.1.below y4, N10.out.2.2.2.2.2.2.1.below y4, N10.out.2.2.2.2.2.2.2.1.below y4, N10.out.2.2.2.2.2.2.2.2.1.below y4, N10.out.2.2.2.2.2.2.2.2.2.1.below y4, N10.out.2.2.2.2.2.2.2.2.2.2.trans (y4.mono N10.out.2.2.2.2.2.2.2.2.2.2.size)⟩
      clear y4 N10
      have Fc : Hid (Frc Nc Dc (hM f (b - 1)) (hX f L (b - 1))) := y3
      clear y1 y2 y3
      obtain ⟨-, fDc, T⟩ := of_nat N11.out.2.1
      have GDc : Hid (Fits 1000 Dc) := fDc.up (by decide)
      clear fDc
      go_wp2_with fail
      refine T.mono ?_
      rintro x w12 ⟨rc, rfl, y1, y2⟩
      have N12 : Hid (Big.NatV w12 rc Dc ∧ NatV w12 pc Nc ∧ NatV w12 qc Dc ∧ Big.NatV w12 ua (Na * 1) ∧ Big.NatV w12 ta Na ∧ Big.NatV w12 sa ((m * 10 ^ k) * Da) ∧ Big.NatV w12 ra Da ∧ NatV w12 pa Na ∧ NatV w12 qa Da ∧ Big.NatV w12 v4 (m * 10 ^ k) ∧ Big.NatV w12 v3 (10 ^ k) ∧ Big.NatV w12 v2 1 ∧ Big.NatV w12 v1 m ∧ Below w.heap.size w w12) := ⟨y1, N11.out.1.below y2, N11.out.2.1.below y2, N11.out.2.2.1.below y2, N11.out.2.2.2.1.below y2, N11.out.2.2.2.2.1.below y2, N11.out.2.2.2.2.2.1.below y2, N11.out.2.2.2.2.2.2.1.below y2, N11.out.2.2.2.2.2.2.2.1.below y2, N11.out.2.2.2.2.2.2.2.2.1.below y2, N11.out.2.2.2.2.2.2.2.2.2.1.below y2, N11.out.2.2.2.2.2.2.2.2.2.2.1.below y2, N11.out.2.2.2.2.2.2.2.2.2.2.2.1.below y2, N11.out.2.2.2.2.2.2.2.2.2.2.2.2.trans (y2.mono N11.out.2.2.2.2.2.2.2.2.2.2.2.2.size)⟩
      clear y2 N11
      clear y1 T
      have T := times_nat N12.out.2.2.2.2.2.2.2.2.2.1 N12.out.1 FX.out GDc.out
      go_wp2_with fail
      refine T.mono ?_
      rintro x w13 ⟨sc, rfl, y1, y2⟩
      have N13 : Hid (Big.NatV w13 sc ((m * 10 ^ k) * Dc) ∧ Big.NatV w13 rc Dc ∧ NatV w13 pc Nc ∧ NatV w13 qc Dc ∧ Big.NatV w13 ua (Na * 1) ∧ Big.NatV w13 ta Na ∧ Big.NatV w13 sa ((m * 10 ^ k) * Da) ∧ Big.NatV w13 ra Da ∧ NatV w13 pa Na ∧ NatV w13 qa Da ∧ Big.NatV w13 v4 (m * 10 ^ k) ∧ Big.NatV w13 v3 (10 ^ k) ∧ Big.NatV w13 v2 1 ∧ Big.NatV w13 v1 m ∧ Below w.heap.size w w13) := ⟨y1, N12.out.1.below y2, N12.out.2.1.below y2, N12.out.2.2.1.below y2, N12.out.2.2.2.1.below y2, N12.out.2.2.2.2.1.below y2, N12.out.2.2.2.2.2.1.below y2, N12.out.2.2.2.2.2.2.1.below y2, N12.out.2.2.2.2.2.2.2.1.below y2, N12.out.2.2.2.2.2.2.2.2.1.below y2, N12.out.2.2.2.2.2.2.2.2.2.1.below y2, N12.out.2.2.2.2.2.2.2.2.2.2.1.below y2, N12.out.2.2.2.2.2.2.2.2.2.2.2.1.below y2, N12.out.2.2.2.2.2.2.2.2.2.2.2.2.1.below y2, N12.out.2.2.2.2.2.2.2.2.2.2.2.2.2.trans (y2.mono N12.out.2.2.2.2.2.2.2.2.2.2.2.2.2.size)⟩
      clear y2 N12
      clear y1 T
      obtain ⟨-, fNc, T⟩ := of_nat N13.out.2.2.1
      have GNc : Hid (Fits 1000 Nc) := fNc.up (by decide)
      clear fNc
      go_wp2_with fail
      refine T.mono ?_
      rintro x w14 ⟨tc, rfl, y1, y2⟩
      have N14 : Hid (Big.NatV w14 tc Nc ∧ Big.NatV w14 sc ((m * 10 ^ k) * Dc) ∧ Big.NatV w14 rc Dc ∧ NatV w14 pc Nc ∧ NatV w14 qc Dc ∧ Big.NatV w14 ua (Na * 1) ∧ Big.NatV w14 ta Na ∧ Big.NatV w14 sa ((m * 10 ^ k) * Da) ∧ Big.NatV w14 ra Da ∧ NatV w14 pa Na ∧ NatV w14 qa Da ∧ Big.NatV w14 v4 (m * 10 ^ k) ∧ Big.NatV w14 v3 (10 ^ k) ∧ Big.NatV w14 v2 1 ∧ Big.NatV w14 v1 m ∧ Below w.heap.size w w14) := ⟨y1, N13.out.1.below y2, N13.out.2.1.below y2, N13.out.2.2.1.below y2, N13.out.2.2.2.1.below y2, N13.out.2.2.2.2.1.below y2, N13.out.2.2.2.2.2.1.below y2, N13.out.2.2.2.2.2.2.1.below y2, N13.out.2.2.2.2.2.2.2.1.below y2, N13.out.2.2.2.2.2.2.2.2.1.below y2, N13.out.2.2.2.2.2.2.2.2.2.1.below y2, N13.out.2.2.2.2.2.2.2.2.2.2.1.below y2, N13.out.2.2.2.2.2.2.2.2.2.2.2.1.below y2, N13.out.2.2.2.2.2.2.2.2.2.2.2.2.1.below y2, N13.out.2.2.2.2.2.2.2.2.2.2.2.2.2.1.below y2, N13.out.2.2.2.2.2.2.2.2.2.2.2.2.2.2.trans (y2.mono N13.out.2.2.2.2.2.2.2.2.2.2.2.2.2.2.size)⟩
      clear y2 N13
      clear y1 T
      have T := times_nat N14.out.1 N14.out.2.2.2.2.2.2.2.2.2.2.2.2.2.1 GNc.out FF.out.2.2
      go_wp2_with fail
      refine T.mono ?_
      rintro x w15 ⟨uc, rfl, y1, y2⟩
      have N15 : Hid (Big.NatV w15 uc (Nc * 1) ∧ Big.NatV w15 tc Nc ∧ Big.NatV w15 sc ((m * 10 ^ k) * Dc) ∧ Big.NatV w15 rc Dc ∧ NatV w15 pc Nc ∧ NatV w15 qc Dc ∧ Big.NatV w15 ua (Na * 1) ∧ Big.NatV w15 ta Na ∧ Big.NatV w15 sa ((m * 10 ^ k) * Da) ∧ Big.NatV w15 ra Da ∧ NatV w15 pa Na ∧ NatV w15 qa Da ∧ Big.NatV w15 v4 (m * 10 ^ k) ∧ Big.NatV w15 v3 (10 ^ k) ∧ Big.NatV w15 v2 1 ∧ Big.NatV w15 v1 m ∧ Below w.heap.size w w15) := ⟨y1, N14.out.1.below y2, N14.out.2.1.below y2, N14.out.2.2.1.below y2, N14.out.2.2.2.1.below y2, N14.out.2.2.2.2.1.below y2, N14.out.2.2.2.2.2.1.below y2, N14.out.2.2.2.2.2.2.1.below y2, N14.out.2.2.2.2.2.2.2.1.below y2, N14.out.2.2.2.2.2.2.2.2.1.below y2, N14.out.2.2.2.2.2.2.2.2.2.1.below y2, N14.out.2.2.2.2.2.2.2.2.2.2.1.below y2, N14.out.2.2.2.2.2.2.2.2.2.2.2.1.below y2, N14.out.2.2.2.2.2.2.2.2.2.2.2.2.1.below y2, N14.out.2.2.2.2.2.2.2.2.2.2.2.2.2.1.below y2, N14.out.2.2.2.2.2.2.2.2.2.2.2.2.2.2.1.below y2, N14.out.2.2.2.2.2.2.2.2.2.2.2.2.2.2.2.trans (y2.mono N14.out.2.2.2.2.2.2.2.2.2.2.2.2.2.2.2.size)⟩
      clear y2 N14
      clear y1 T
      have T := bcmp_nat N15.out.2.2.1 N15.out.1
      rcases dn_ord Fc.out UD.out with ec | ⟨ec, ev⟩
      · rw [ec] at T
        clear ec
        go_wp2_with fail
        refine T.mono ?_
        rintro x w16 ⟨rfl, y2⟩
        have N16 : Hid (Big.NatV w16 uc (Nc * 1) ∧ Big.NatV w16 tc Nc ∧ Big.NatV w16 sc ((m * 10 ^ k) * Dc) ∧ Big.NatV w16 rc Dc ∧ NatV w16 pc Nc ∧ NatV w16 qc Dc ∧ Big.NatV w16 ua (Na * 1) ∧ Big.NatV w16 ta Na ∧ Big.NatV w16 sa ((m * 10 ^ k) * Da) ∧ Big.NatV w16 ra Da ∧ NatV w16 pa Na ∧ NatV w16 qa Da ∧ Big.NatV w16 v4 (m * 10 ^ k) ∧ Big.NatV w16 v3 (10 ^ k) ∧ Big.NatV w16 v2 1 ∧ Big.NatV w16 v1 m ∧ Below w.heap.size w w16) := ⟨N15.out.1.below y2, N15.out.2.1.below y2, N15.out.2.2.1.below y2, N15.out.2.2.2.1.below y2, N15.out.2.2.2.2.1.below y2, N15.out.2.2.2.2.2.1.below y2, N15.out.2.2.2.2.2.2.1.below y2, N15.out.2.2.2.2.2.2.2.1.below y2, N15.out.2.2.2.2.2.2.2.2.1.below y2, N15.out.2.2.2.2.2.2.2.2.2.1.below y2, N15.out.2.2.2.2.2.2.2.2.2.2.1.below y2, N15.out.2.2.2.2.2.2.2.2.2.2.2.1.below y2, N15.out.2.2.2.2.2.2.2.2.2.2.2.2.1.below y2, N15.out.2.2.2.2.2.2.2.2.2.2.2.2.2.1.below y2, N15.out.2.2.2.2.2.2.2.2.2.2.2.2.2.2.1.below y2, N15.out.2.2.2.2.2.2.2.2.2.2.2.2.2.2.2.1.below y2, N15.out.2.2.2.2.2.2.2.2.2.2.2.2.2.2.2.2.trans (y2.mono N15.out.2.2.2.2.2.2.2.2.2.2.2.2.2.2.2.2.size)⟩
        clear y2 N15
        clear T
        go_wp2_with fail
        refine (S _).mono ?_
        rintro x w16 ⟨rfl, rfl⟩
        go_wp2
        go_ret
        exact ⟨rfl, N16.out.2.2.2.2.2.2.2.2.2.2.2.2.2.2.2.2⟩
      · rw [ec] at T
        have e3 : (((b : Int)) % 2 == 0) = true := by simp; omega
        have e4 : ((b : Int).tmod 2 == 0) = true := by rw [Int.tmod_eq_emod_of_nonneg (by omega)]; exact e3
        clear ev
        clear ec
        go_wp2_with fail
        refine T.mono ?_
        rintro x w16 ⟨rfl, y2⟩
        have N16 : Hid (Big.NatV w16 uc (Nc * 1) ∧ Big.NatV w16 tc Nc ∧ Big.NatV w16 sc ((m * 10 ^ k) * Dc) ∧ Big.NatV w16 rc Dc ∧ NatV w16 pc Nc ∧ NatV w16 qc Dc ∧ Big.NatV w16 ua (Na * 1) ∧ Big.NatV w16 ta Na ∧ Big.NatV w16 sa ((m * 10 ^ k) * Da) ∧ Big.NatV w16 ra Da ∧ NatV w16 pa Na ∧ NatV w16 qa Da ∧ Big.NatV w16 v4 (m * 10 ^ k) ∧ Big.NatV w16 v3 (10 ^ k) ∧ Big.NatV w16 v2 1 ∧ Big.NatV w16 v1 m ∧ Below w.heap.size w w16) := ⟨N15.out.1.below y2, N15.out.2.1.below y2, N15.out.2.2.1.below y2, N15.out.2.2.2.1.below y2, N15.out.2.2.2.2.1.below y2, N15.out.2.2.2.2.2.1.below y2, N15.out.2.2.2.2.2.2.1.below y2, N15.out.2.2.2.2.2.2.2.1.below y2, N15.out.2.2.2.2.2.2.2.2.1.below y2, N15.out.2.2.2.2.2.2.2.2.2.1.below y2, N15.out.2.2.2.2.2.2.2.2.2.2.1.below y2, N15.out.2.2.2.2.2.2.2.2.2.2.2.1.below y2, N15.out.2.2.2.2.2.2.2.2.2.2.2.2.1.below y2, N15.out.2.2.2.2.2.2.2.2.2.2.2.2.2.1.below y2, N15.out.2.2.2.2.2.2.2.2.2.2.2.2.2.2.1.below y2, N15.out.2.2.2.2.2.2.2.2.2.2.2.2.2.2.2.1.below y2, N15.out.2.2.2.2.2.2.2.2.2.2.2.2.2.2.2.2.trans (y2.mono N15.out.2.2.2.2.2.2.2.2.2.2.2.2.2.2.2.2.size)⟩
        clear y2 N15
        clear T
        go_wp2_with fail
        refine (S _).mono ?_
        rintro x w16 ⟨rfl, rfl⟩
        go_wp2
        go_ret
        exact ⟨rfl, N16.out.2.2.2.2.2.2.2.2.2.2.2.2.2.2.2.2⟩
set_option maxRecDepth 100000 in
set_option maxHeartbeats 4000000 in
theorem near_dn64 {m k b f g n T : Nat} {L : Int} (hz : Fz 64 g n f T L) (m0 : m ≠ 0) (hm : m ≤ 9007199254740992) (hk : k ≤ 22) (k0 : 0 < k) (hb : b < n)
    (A : ∀ W, Calls Try.prog 6 #[.int .u64 (m : Int), .int .i64 (-(k : Int)), .int .i64 64] W fun x w' => x = .returned (.tuple #[.int .u64 (b : Int), .bool true, .nilIface]) ∧ w' = W)
    (R : RD f L m (10 ^ k) 0 false b) (w : World) : Calls Try.prog 5 #[.int .u64 (m : Int), .int .i64 (-(k : Int)), .int .i64 64] w fun x w' => x = .returned (.bool true) ∧ Below w.heap.size w w' := by
  have S := fun W => works_any W
  have S1 := fun W => small_nat m (by unfold B; omega) W
  have S2 := fun W => small_nat 1 (by unfold B; decide) W
  rw [show ((1 : Nat) : Int) = 1 from rfl] at S2
  have S3 := fun W => raised_far 10 k (by decide) (by decide) (by omega) W
  rw [show ((10 : Nat) : Int) = 10 from rfl] at S3
  have FF : Hid (Fits 1000 m ∧ Fits 1000 (10 ^ k) ∧ Fits 1000 1) := ⟨fits_ten (k := 16) (by omega) (by decide), fits_far (by decide) (by omega), fits_ten (k := 1) (by decide) (by decide)⟩
  have H := fun W => half14 hz hb W
  have HR : Hid (RD f L m (10 ^ k) 0 false b) := R
  have HH : Hid (b ≠ 0 → ∀ W, Calls Try.prog 20 #[.int .u64 ((b : Int) - 1), .int .i64 64] W fun x w' => ∃ (v1 v2 : Value) (N D : Nat), x = .returned (.tuple #[v1, v2, .int .i64 0]) ∧ NatV w' v1 N ∧ NatV w' v2 D ∧ Frc N D (hM f (b - 1)) (hX f L (b - 1)) ∧ Below W.heap.size W w') := fun z W => by
    have h := half14 hz (b := b - 1) (by omega) W
    rw [show ((b - 1 : Nat) : Int) = (b : Int) - 1 from by omega] at h
    exact h
  have b64 : b < 18446744073709551616 := by have := fz_parts hz; omega
  have c0 : ((m : Int) == 0) = false := by simp; omega
  have c1 : ¬ 400 < (-(k : Int)) := by omega
  have c2 : ¬ (-(k : Int)) < -400 := by omega
  have c3 : ¬ (0 : Int) ≤ (-(k : Int)) := by omega
  clear m0 hm hz hb R k0
  go_enter Try.func5, Try.ntmps5
  go_wp2_with fail
  refine (A _).mono ?_
  rintro x w ⟨rfl, rfl⟩
  go_wp2_with fail
  refine (S1 _).mono ?_
  rintro x w1 ⟨v1, rfl, n1, b1⟩
  have N1 : Hid (Big.NatV w1 v1 m ∧ Below w.heap.size w w1) := ⟨n1, b1⟩
  clear b1
  clear n1 S1
  go_wp2_with fail
  refine (S2 _).mono ?_
  rintro x w2 ⟨v2, rfl, n2, b2⟩
  have N2 : Hid (Big.NatV w2 v2 1 ∧ Big.NatV w2 v1 m ∧ Below w.heap.size w w2) := ⟨n2, N1.out.1.below b2, N1.out.2.trans (b2.mono N1.out.2.size)⟩
  clear b2 N1
  clear n2 S2
  go_wp2_with fail
  refine (S3 _).mono ?_
  rintro x w3 ⟨v3, rfl, n3, b3⟩
  have N3 : Hid (Big.NatV w3 v3 (10 ^ k) ∧ Big.NatV w3 v2 1 ∧ Big.NatV w3 v1 m ∧ Below w.heap.size w w3) := ⟨n3, N2.out.1.below b3, N2.out.2.1.below b3, N2.out.2.2.trans (b3.mono N2.out.2.2.size)⟩
  clear b3 N2
  clear n3 S3
  go_wp2_with fail
  refine (H _).mono ?_
  rintro x w4 ⟨pa, qa, Na, Da, rfl, y1, y2, y3, y4⟩
  have N4 : Hid (NatV w4 pa Na ∧ NatV w4 qa Da ∧ Big.NatV w4 v3 (10 ^ k) ∧ Big.NatV w4 v2 1 ∧ Big.NatV w4 v1 m ∧ Below w.heap.size w w4) := ⟨y1, y2, N3.out.1.below y4, N3.out.2.1.below y4, N3.out.2.2.1.below y4, N3.out.2.2.2.trans (y4.mono N3.out.2.2.2.size)⟩
  clear y4 N3
  have Fa : Hid (Frc Na Da (hM f b) (hX f L b)) := y3
  clear y1 y2 y3
  obtain ⟨-, fDa, T⟩ := of_nat N4.out.2.1
  have GDa : Hid (Fits 1000 Da) := fDa.up (by decide)
  clear fDa
  go_wp2_with fail
  refine T.mono ?_
  rintro x w5 ⟨ra, rfl, y1, y2⟩
  have N5 : Hid (Big.NatV w5 ra Da ∧ NatV w5 pa Na ∧ NatV w5 qa Da ∧ Big.NatV w5 v3 (10 ^ k) ∧ Big.NatV w5 v2 1 ∧ Big.NatV w5 v1 m ∧ Below w.heap.size w w5) := ⟨y1, N4.out.1.below y2, N4.out.2.1.below y2, N4.out.2.2.1.below y2, N4.out.2.2.2.1.below y2, N4.out.2.2.2.2.1.below y2, N4.out.2.2.2.2.2.trans (y2.mono N4.out.2.2.2.2.2.size)⟩
  clear y2 N4
  clear y1 T
  have T := times_nat N5.out.2.2.2.2.2.1 N5.out.1 FF.out.1 GDa.out
  go_wp2_with fail
  refine T.mono ?_
  rintro x w6 ⟨sa, rfl, y1, y2⟩
  have N6 : Hid (Big.NatV w6 sa (m * Da) ∧ Big.NatV w6 ra Da ∧ NatV w6 pa Na ∧ NatV w6 qa Da ∧ Big.NatV w6 v3 (10 ^ k) ∧ Big.NatV w6 v2 1 ∧ Big.NatV w6 v1 m ∧ Below w.heap.size w w6) := ⟨y1, N5.out.1.below y2, N5.out.2.1.below y2, N5.out.2.2.1.below y2, N5.out.2.2.2.1.below y2, N5.out.2.2.2.2.1.below y2, N5.out.2.2.2.2.2.1.below y2, N5.out.2.2.2.2.2.2.trans (y2.mono N5.out.2.2.2.2.2.2.size)⟩
  clear y2 N5
  clear y1 T
  obtain ⟨-, fNa, T⟩ := of_nat N6.out.2.2.1
  have GNa : Hid (Fits 1000 Na) := fNa.up (by decide)
  clear fNa
  go_wp2_with fail
  refine T.mono ?_
  rintro x w7 ⟨ta, rfl, y1, y2⟩
  have N7 : Hid (Big.NatV w7 ta Na ∧ Big.NatV w7 sa (m * Da) ∧ Big.NatV w7 ra Da ∧ NatV w7 pa Na ∧ NatV w7 qa Da ∧ Big.NatV w7 v3 (10 ^ k) ∧ Big.NatV w7 v2 1 ∧ Big.NatV w7 v1 m ∧ Below w.heap.size w w7) := ⟨y1, N6.out.1.below y2, N6.out.2.1.below y2, N6.out.2.2.1.below y2, N6.out.2.2.2.1.below y2, N6.out.2.2.2.2.1.below y2, N6.out.2.2.2.2.2.1.below y2, N6.out.2.2.2.2.2.2.1.below y2, N6.out.2.2.2.2.2.2.2.trans (y2.mono N6.out.2.2.2.2.2.2.2.size)⟩
  clear y2 N6
  clear y1 T
  have T := times_nat N7.out.1 N7.out.2.2.2.2.2.1 GNa.out FF.out.2.1
  go_wp2_with fail
  refine T.mono ?_
  rintro x w8 ⟨ua, rfl, y1, y2⟩
  have N8 : Hid (Big.NatV w8 ua (Na * (10 ^ k)) ∧ Big.NatV w8 ta Na ∧ Big.NatV w8 sa (m * Da) ∧ Big.NatV w8 ra Da ∧ NatV w8 pa Na ∧ NatV w8 qa Da ∧ Big.NatV w8 v3 (10 ^ k) ∧ Big.NatV w8 v2 1 ∧ Big.NatV w8 v1 m ∧ Below w.heap.size w w8) := ⟨y1, N7.out.1.below y2, N7.out.2.1.below y2, N7.out.2.2.1.below y2, N7.out.2.2.2.1.below y2, N7.out.2.2.2.2.1.below y2, N7.out.2.2.2.2.2.1.below y2, N7.out.2.2.2.2.2.2.1.below y2, N7.out.2.2.2.2.2.2.2.1.below y2, N7.out.2.2.2.2.2.2.2.2.trans (y2.mono N7.out.2.2.2.2.2.2.2.2.size)⟩
  clear y2 N7
  clear y1 T
  have T := bcmp_nat N8.out.2.2.1 N8.out.1
  rcases up_ord Fa.out HR.out.1 with ec | ⟨ec, ev⟩
  · rw [ec] at T
    clear ec
    go_wp2_with fail
    refine T.mono ?_
    rintro x w9 ⟨rfl, y2⟩
    have N9 : Hid (Big.NatV w9 ua (Na * (10 ^ k)) ∧ Big.NatV w9 ta Na ∧ Big.NatV w9 sa (m * Da) ∧ Big.NatV w9 ra Da ∧ NatV w9 pa Na ∧ NatV w9 qa Da ∧ Big.NatV w9 v3 (10 ^ k) ∧ Big.NatV w9 v2 1 ∧ Big.NatV w9 v1 m ∧ Below w.heap.size w w9) := ⟨N8.out.1.below y2, N8.out.2.1.below y2, N8.out.2.2.1.below y2, N8.out.2.2.2.1.below y2, N8.out.2.2.2.2.1.below y2, N8.out.2.2.2.2.2.1.below y2, N8.out.2.2.2.2.2.2.1.below y2, N8.out.2.2.2.2.2.2.2.1.below y2, N8.out.2.2.2.2.2.2.2.2.1.below y2, N8.out.2.2.2.2.2.2.2.2.2.trans (y2.mono N8.out.2.2.2.2.2.2.2.2.2.size)⟩
    clear y2 N8
    clear T
    by_cases z : b = 0
    · subst z
      go_wp2_with fail
      refine (S _).mono ?_
      rintro x w9 ⟨rfl, rfl⟩
      go_wp2
      go_ret
      exact ⟨rfl, N9.out.2.2.2.2.2.2.2.2.2⟩
    · have z0 : ((b : Int) == 0) = false := by simp; omega
      have H1 := HH.out z
      have UD : Hid (¬ Up f L m (10 ^ k) 0 false (b - 1)) := HR.out.2.resolve_left z
      have z1 : 1 ≤ b := by omega
      clear z
      go_wp2_with fail
      refine (H1 _).mono ?_
      rintro x w10 ⟨pc, qc, Nc, Dc, rfl, y1, y2, y3, y4⟩
      have N10 : Hid (NatV w10 pc Nc ∧ NatV w10 qc Dc ∧ Big.NatV w10 ua (Na * (10 ^ k)) ∧ Big.NatV w10 ta Na ∧ Big.NatV w10 sa (m * Da) ∧ Big.NatV w10 ra Da ∧ NatV w10 pa Na ∧ NatV w10 qa Da ∧ Big.NatV w10 v3 (10 ^ k) ∧ Big.NatV w10 v2 1 ∧ Big.NatV w10 v1 m ∧ Below w.heap.size w w10) := ⟨y1, y2, N9.out.1.below y4, N9.out.2.1.below y4, N9.out.2.2.1.below y4, N9.out.2.2.2.1.below y4, N9.out.2.2.2.2.1.below y4, N9.out.2.2.2.2.2.1.below y4, N9.out.2.2.2.2.2.2.1.below y4, N9.out.2.2.2.2.2.2.2.1.below y4, N9.out.2.2.2.2.2.2.2.2.1.below y4, N9.out.2.2.2.2.2.2.2.2.2.trans (y4.mono N9.out.2.2.2.2.2.2.2.2.2.size)⟩
      clear y4 N9
      have Fc : Hid (Frc Nc Dc (hM f (b - 1)) (hX f L (b - 1))) := y3
      clear y1 y2 y3
      obtain ⟨-, fDc, T⟩ := of_nat N10.out.2.1
      have GDc : Hid (Fits 1000 Dc) := fDc.up (by decide)
      clear fDc
      go_wp2_with fail
      refine T.mono ?_
      rintro x w11 ⟨rc, rfl, y1, y2⟩
      have N11 : Hid (Big.NatV w11 rc Dc ∧ NatV w11 pc Nc ∧ NatV w11 qc Dc ∧ Big.NatV w11 ua (Na * (10 ^ k)) ∧ Big.NatV w11 ta Na ∧ Big.NatV w11 sa (m * Da) ∧ Big.NatV w11 ra Da ∧ NatV w11 pa Na ∧ NatV w11 qa Da ∧ Big.NatV w11 v3 (10 ^ k) ∧ Big.NatV w11 v2 1 ∧ Big.NatV w11 v1 m ∧ Below w.heap.size w w11) := ⟨y1, N10.out.1.below y2, N10.out.2.1.below y2, N10.out.2.2.1.below y2, N10.out.2.2.2.1.below y2, N10.out.2.2.2.2.1.below y2, N10.out.2.2.2.2.2.1.below y2, N10.out.2.2.2.2.2.2.1.below y2, N10.out.2.2.2.2.2.2.2.1.below y2, N10.out.2.2.2.2.2.2.2.2.1.below y2, N10.out.2.2.2.2.2.2.2.2.2.1.below y2, N10.out.2.2.2.2.2.2.2.2.2.2.1.below y2, N10.out.2.2.2.2.2.2.2.2.2.2.2.trans (y2.mono N10.out.2.2.2.2.2.2.2.2.2.2.2.size)⟩
      clear y2 N10
      clear y1 T
      have T := times_nat N11.out.2.2.2.2.2.2.2.2.2.2.2.1 N11.out.1 FF.out.1 GDc.out
      go_wp2_with fail
      refine T.mono ?_
      rintro x w12 ⟨sc, rfl, y1, y2⟩
      have N12 : Hid (Big.NatV w12 sc (m * Dc) ∧ Big.NatV w12 rc Dc ∧ NatV w12 pc Nc ∧ NatV w12 qc Dc ∧ Big.NatV w12 ua (Na * (10 ^ k)) ∧ Big.NatV w12 ta Na ∧ Big.NatV w12 sa (m * Da) ∧ Big.NatV w12 ra Da ∧ NatV w12 pa Na ∧ NatV w12 qa Da ∧ Big.NatV w12 v3 (10 ^ k) ∧ Big.NatV w12 v2 1 ∧ Big.NatV w12 v1 m ∧ Below w.heap.size w w12) := ⟨y1, N11.out.1.below y2, N11.out.2.1.below y2, N11.out.2.2.1.below y2, N11.out.2.2.2.1.below y2, N11.out.2.2.2.2.1.below y2, N11.out.2.2.2.2.2.1.below y2, N11.out.2.2.2.2.2.2.1.below y2, N11.out.2.2.2.2.2.2.2.1.below y2, N11.out.2.2.2.2.2.2.2.2.1.below y2, N11.out.2.2.2.2.2.2.2.2.2.1.below y2, N11.out.2.2.2.2.2.2.2.2.2.2.1.below y2, N11.out.2.2.2.2.2.2.2.2.2.2.2.1.below y2, N11.out.2.2.2.2.2.2.2.2.2.2.2.2.trans (y2.mono N11.out.2.2.2.2.2.2.2.2.2.2.2.2.size)⟩
      clear y2 N11
      clear y1 T
      obtain ⟨-, fNc, T⟩ := of_nat N12.out.2.2.1
      have GNc : Hid (Fits 1000 Nc) := fNc.up (by decide)
      clear fNc
      go_wp2_with fail
      refine T.mono ?_
      rintro x w13 ⟨tc, rfl, y1, y2⟩
      have N13 : Hid (Big.NatV w13 tc Nc ∧ Big.NatV w13 sc (m * Dc) ∧ Big.NatV w13 rc Dc ∧ NatV w13 pc Nc ∧ NatV w13 qc Dc ∧ Big.NatV w13 ua (Na * (10 ^ k)) ∧ Big.NatV w13 ta Na ∧ Big.NatV w13 sa (m * Da) ∧ Big.NatV w13 ra Da ∧ NatV w13 pa Na ∧ NatV w13 qa Da ∧ Big.NatV w13 v3 (10 ^ k) ∧ Big.NatV w13 v2 1 ∧ Big.NatV w13 v1 m ∧ Below w.heap.size w w13) := ⟨y1, N12.out.1.below y2, N12.out.2.1.below y2, N12.out.2.2.1.below y2, N12.out.2.2.2.1.below y2, N12.out.2.2.2.2.1.below y2, N12.out.2.2.2.2.2.1.below y2, N12.out.2.2.2.2.2.2.1.below y2, N12.out.2.2.2.2.2.2.2.1.below y2, N12.out.2.2.2.2.2.2.2.2.1.below y2, N12.out.2.2.2.2.2.2.2.2.2.1.below y2, N12.out.2.2.2.2.2.2.2.2.2.2.1.below y2, N12.out.2.2.2.2.2.2.2.2.2.2.2.1.below y2, N12.out.2.2.2.2.2.2.2.2.2.2.2.2.1.below y2, N12.out.2.2.2.2.2.2.2.2.2.2.2.2.2.trans (y2.mono N12.out.2.2.2.2.2.2.2.2.2.2.2.2.2.size)⟩
      clear y2 N12
      clear y1 T
      have T := times_nat N13.out.1 N13.out.2.2.2.2.2.2.2.2.2.2.2.1 GNc.out FF.out.2.1
      go_wp2_with fail
      refine T.mono ?_
      rintro x w14 ⟨uc, rfl, y1, y2⟩
      have N14 : Hid (Big.NatV w14 uc (Nc * (10 ^ k)) ∧ Big.NatV w14 tc Nc ∧ Big.NatV w14 sc (m * Dc) ∧ Big.NatV w14 rc Dc ∧ NatV w14 pc Nc ∧ NatV w14 qc Dc ∧ Big.NatV w14 ua (Na * (10 ^ k)) ∧ Big.NatV w14 ta Na ∧ Big.NatV w14 sa (m * Da) ∧ Big.NatV w14 ra Da ∧ NatV w14 pa Na ∧ NatV w14 qa Da ∧ Big.NatV w14 v3 (10 ^ k) ∧ Big.NatV w14 v2 1 ∧ Big.NatV w14 v1 m ∧ Below w.heap.size w w14) := ⟨y1, N13.out.1.below y2, N13.out.2.1.below y2, N13.out.2.2.1.below y2, N13.out.2.2.2.1.below y2, N13.out.2.2.2.2.1.below y2, N13.out.2.2.2.2.2.1.below y2, N13.out.2.2.2.2.2.2.1.below y2, N13.out.2.2.2.2.2.2.2.1.below y2, N13.out.2.2.2.2.2.2.2.2.1.below y2, N13.out.2.2.2.2.2.2.2.2.2.1.below y2, N13.out.2.2.2.2.2.2.2.2.2.2.1.below y2, N13.out.2.2.2.2.2.2.2.2.2.2.2.1.below y2, N13.out.2.2.2.2.2.2.2.2.2.2.2.2.1.below y2, N13.out.2.2.2.2.2.2.2.2.2.2.2.2.2.1.below y2, N13.out.2.2.2.2.2.2.2.2.2.2.2.2.2.2.trans (y2.mono N13.out.2.2.2.2.2.2.2.2.2.2.2.2.2.2.size)⟩
      clear y2 N13
      clear y1 T
      have T := bcmp_nat N14.out.2.2.1 N14.out.1
      rcases dn_ord Fc.out UD.out with ec | ⟨ec, ev⟩
      · rw [ec] at T
        clear ec
        go_wp2_with fail
        refine T.mono ?_
        rintro x w15 ⟨rfl, y2⟩
        have N15 : Hid (Big.NatV w15 uc (Nc * (10 ^ k)) ∧ Big.NatV w15 tc Nc ∧ Big.NatV w15 sc (m * Dc) ∧ Big.NatV w15 rc Dc ∧ NatV w15 pc Nc ∧ NatV w15 qc Dc ∧ Big.NatV w15 ua (Na * (10 ^ k)) ∧ Big.NatV w15 ta Na ∧ Big.NatV w15 sa (m * Da) ∧ Big.NatV w15 ra Da ∧ NatV w15 pa Na ∧ NatV w15 qa Da ∧ Big.NatV w15 v3 (10 ^ k) ∧ Big.NatV w15 v2 1 ∧ Big.NatV w15 v1 m ∧ Below w.heap.size w w15) := ⟨N14.out.1.below y2, N14.out.2.1.below y2, N14.out.2.2.1.below y2, N14.out.2.2.2.1.below y2, N14.out.2.2.2.2.1.below y2, N14.out.2.2.2.2.2.1.below y2, N14.out.2.2.2.2.2.2.1.below y2, N14.out.2.2.2.2.2.2.2.1.below y2, N14.out.2.2.2.2.2.2.2.2.1.below y2, N14.out.2.2.2.2.2.2.2.2.2.1.below y2, N14.out.2.2.2.2.2.2.2.2.2.2.1.below y2, N14.out.2.2.2.2.2.2.2.2.2.2.2.1.below y2, N14.out.2.2.2.2.2.2.2.2.2.2.2.2.1.below y2, N14.out.2.2.2.2.2.2.2.2.2.2.2.2.2.1.below y2, N14.out.2.2.2.2.2.2.2.2.2.2.2.2.2.2.1.below y2, N14.out.2.2.2.2.2.2.2.2.2.2.2.2.2.2.2.trans (y2.mono N14.out.2.2.2.2.2.2.2.2.2.2.2.2.2.2.2.size)⟩
        clear y2 N14
        clear T
        go_wp2_with fail
        refine (S _).mono ?_
        rintro x w15 ⟨rfl, rfl⟩
        go_wp2
        go_ret
        exact ⟨rfl, N15.out.2.2.2.2.2.2.2.2.2.2.2.2.2.2.2⟩
      · rw [ec] at T
        have e3 : (((b : Int)) % 2 == 0) = true := by simp; omega
        have e4 : ((b : Int).tmod 2 == 0) = true := by rw [Int.tmod_eq_emod_of_nonneg (by omega)]; exact e3
        clear ev
        clear ec
        go_wp2_with fail
        refine T.mono ?_
        rintro x w15 ⟨rfl, y2⟩
        have N15 : Hid (Big.NatV w15 uc (Nc * (10 ^ k)) ∧ Big.NatV w15 tc Nc ∧ Big.NatV w15 sc (m * Dc) ∧ Big.NatV w15 rc Dc ∧ NatV w15 pc Nc ∧ NatV w15 qc Dc ∧ Big.NatV w15 ua (Na * (10 ^ k)) ∧ Big.NatV w15 ta Na ∧ Big.NatV w15 sa (m * Da) ∧ Big.NatV w15 ra Da ∧ NatV w15 pa Na ∧ NatV w15 qa Da ∧ Big.NatV w15 v3 (10 ^ k) ∧ Big.NatV w15 v2 1 ∧ Big.NatV w15 v1 m ∧ Below w.heap.size w w15) := ⟨N14.out.1.below y2, N14.out.2.1.below y2, N14.out.2.2.1.below y2, N14.out.2.2.2.1.below y2, N14.out.2.2.2.2.1.below y2, N14.out.2.2.2.2.2.1.below y2, N14.out.2.2.2.2.2.2.1.below y2, N14.out.2.2.2.2.2.2.2.1.below y2, N14.out.2.2.2.2.2.2.2.2.1.below y2, N14.out.2.2.2.2.2.2.2.2.2.1.below y2, N14.out.2.2.2.2.2.2.2.2.2.2.1.below y2, N14.out.2.2.2.2.2.2.2.2.2.2.2.1.below y2, N14.out.2.2.2.2.2.2.2.2.2.2.2.2.1.below y2, N14.out.2.2.2.2.2.2.2.2.2.2.2.2.2.1.below y2, N14.out.2.2.2.2.2.2.2.2.2.2.2.2.2.2.1.below y2, N14.out.2.2.2.2.2.2.2.2.2.2.2.2.2.2.2.trans (y2.mono N14.out.2.2.2.2.2.2.2.2.2.2.2.2.2.2.2.size)⟩
        clear y2 N14
        clear T
        go_wp2_with fail
        refine (S _).mono ?_
        rintro x w15 ⟨rfl, rfl⟩
        go_wp2
        go_ret
        exact ⟨rfl, N15.out.2.2.2.2.2.2.2.2.2.2.2.2.2.2.2⟩
  · rw [ec] at T
    have e1 : (((b : Int)) % 2 == 1) = false := by simp; omega
    have e2 : ((b : Int).tmod 2 == 1) = false := by rw [Int.tmod_eq_emod_of_nonneg (by omega)]; exact e1
    have EV : Hid (b % 2 = 0) := ev
    clear ev
    clear ec
    go_wp2_with fail
    refine T.mono ?_
    rintro x w9 ⟨rfl, y2⟩
    have N9 : Hid (Big.NatV w9 ua (Na * (10 ^ k)) ∧ Big.NatV w9 ta Na ∧ Big.NatV w9 sa (m * Da) ∧ Big.NatV w9 ra Da ∧ NatV w9 pa Na ∧ NatV w9 qa Da ∧ Big.NatV w9 v3 (10 ^ k) ∧ Big.NatV w9 v2 1 ∧ Big.NatV w9 v1 m ∧ Below w.heap.size w w9) := ⟨N8.out.1.below y2, N8.out.2.1.below y2, N8.out.2.2.1.below y2, N8.out.2.2.2.1.below y2, N8.out.2.2.2.2.1.below y2, N8.out.2.2.2.2.2.1.below y2, N8.out.2.2.2.2.2.2.1.below y2, N8.out.2.2.2.2.2.2.2.1.below y2, N8.out.2.2.2.2.2.2.2.2.1.below y2, N8.out.2.2.2.2.2.2.2.2.2.trans (y2.mono N8.out.2.2.2.2.2.2.2.2.2.size)⟩
    clear y2 N8
    clear T
    by_cases z : b = 0
    · subst z
      go_wp2_with fail
      refine (S _).mono ?_
      rintro x w9 ⟨rfl, rfl⟩
      go_wp2
      go_ret
      exact ⟨rfl, N9.out.2.2.2.2.2.2.2.2.2⟩
    · have z0 : ((b : Int) == 0) = false := by simp; omega
      have H1 := HH.out z
      have UD : Hid (¬ Up f L m (10 ^ k) 0 false (b - 1)) := HR.out.2.resolve_left z
      have z1 : 1 ≤ b := by omega
      clear z
      go_wp2_with fail
      refine (H1 _).mono ?_
      rintro x w10 ⟨pc, qc, Nc, Dc, rfl, y1, y2, y3, y4⟩
      have N10 : Hid (NatV w10 pc Nc ∧ NatV w10 qc Dc ∧ Big.NatV w10 ua (Na * (10 ^ k)) ∧ Big.NatV w10 ta Na ∧ Big.NatV w10 sa (m * Da) ∧ Big.NatV w10 ra Da ∧ NatV w10 pa Na ∧ NatV w10 qa Da ∧ Big.NatV w10 v3 (10 ^ k) ∧ Big.NatV w10 v2 1 ∧ Big.NatV w10 v1 m ∧ Below w.heap.size w w10) := ⟨y1, y2, N9.out.1.below y4, N9.out.2.1.below y4, N9.out.2.2.1.below y4, N9.out.2.2.2.1.below y4, N9.out.2.2.2.2.1.below y4, N9.out.2.2.2.2.2.1.below y4, N9.out.2.2.2.2.2.2.1.below y4, N9.out.2.2.2.2.2.2.2.1.below y4, N9.out.2.2.2.2.2.2.2.2.1.below y4, N9.out.2.2.2.2.2.2.2.2.2.trans (y4.mono N9.out.2.2.2.2.2.2.2.2.2.size)⟩
      clear y4 N9
      have Fc : Hid (Frc Nc Dc (hM f (b - 1)) (hX f L (b - 1))) := y3
      clear y1 y2 y3
      obtain ⟨-, fDc, T⟩ := of_nat N10.out.2.1
      have GDc : Hid (Fits 1000 Dc) := fDc.up (by decide)
      clear fDc
      go_wp2_with fail
      refine T.mono ?_
      rintro x w11 ⟨rc, rfl, y1, y2⟩
      have N11 : Hid (Big.NatV w11 rc Dc ∧ NatV w11 pc Nc ∧ NatV w11 qc Dc ∧ Big.NatV w11 ua (Na * (10 ^ k)) ∧ Big.NatV w11 ta Na ∧ Big.NatV w11 sa (m * Da) ∧ Big.NatV w11 ra Da ∧ NatV w11 pa Na ∧ NatV w11 qa Da ∧ Big.NatV w11 v3 (10 ^ k) ∧ Big.NatV w11 v2 1 ∧ Big.NatV w11 v1 m ∧ Below w.heap.size w w11) := ⟨y1, N10.out.1.below y2, N10.out.2.1.below y2, N10.out.2.2.1.below y2, N10.out.2.2.2.1.below y2, N10.out.2.2.2.2.1.below y2, N10.out.2.2.2.2.2.1.below y2, N10.out.2.2.2.2.2.2.1.below y2, N10.out.2.2.2.2.2.2.2.1.below y2, N10.out.2.2.2.2.2.2.2.2.1.below y2, N10.out.2.2.2.2.2.2.2.2.2.1.below y2, N10.out.2.2.2.2.2.2.2.2.2.2.1.below y2, N10.out.2.2.2.2.2.2.2.2.2.2.2.trans (y2.mono N10.out.2.2.2.2.2.2.2.2.2.2.2.size)⟩
      clear y2 N10
      clear y1 T
      have T := times_nat N11.out.2.2.2.2.2.2.2.2.2.2.2.1 N11.out.1 FF.out.1 GDc.out
      go_wp2_with fail
      refine T.mono ?_
      rintro x w12 ⟨sc, rfl, y1, y2⟩
      have N12 : Hid (Big.NatV w12 sc (m * Dc) ∧ Big.NatV w12 rc Dc ∧ NatV w12 pc Nc ∧ NatV w12 qc Dc ∧ Big.NatV w12 ua (Na * (10 ^ k)) ∧ Big.NatV w12 ta Na ∧ Big.NatV w12 sa (m * Da) ∧ Big.NatV w12 ra Da ∧ NatV w12 pa Na ∧ NatV w12 qa Da ∧ Big.NatV w12 v3 (10 ^ k) ∧ Big.NatV w12 v2 1 ∧ Big.NatV w12 v1 m ∧ Below w.heap.size w w12) := ⟨y1, N11.out.1.below y2, N11.out.2.1.below y2, N11.out.2.2.1.below y2, N11.out.2.2.2.1.below y2, N11.out.2.2.2.2.1.below y2, N11.out.2.2.2.2.2.1.below y2, N11.out.2.2.2.2.2.2.1.below y2, N11.out.2.2.2.2.2.2.2.1.below y2, N11.out.2.2.2.2.2.2.2.2.1.below y2, N11.out.2.2.2.2.2.2.2.2.2.1.below y2, N11.out.2.2.2.2.2.2.2.2.2.2.1.below y2, N11.out.2.2.2.2.2.2.2.2.2.2.2.1.below y2, N11.out.2.2.2.2.2.2.2.2.2.2.2.2.trans (y2.mono N11.out.2.2.2.2.2.2.2.2.2.2.2.2.size)⟩
      clear y2 N11
      clear y1 T
      obtain ⟨-, fNc, T⟩ := of_nat N12.out.2.2.1
      have GNc : Hid (Fits 1000 Nc) := fNc.up (by decide)
      clear fNc
      go_wp2_with fail
      refine T.mono ?_
      rintro x w13 ⟨tc, rfl, y1, y2⟩
      have N13 : Hid (Big.NatV w13 tc Nc ∧ Big.NatV w13 sc (m * Dc) ∧ Big.NatV w13 rc Dc ∧ NatV w13 pc Nc ∧ NatV w13 qc Dc ∧ Big.NatV w13 ua (Na * (10 ^ k)) ∧ Big.NatV w13 ta Na ∧ Big.NatV w13 sa (m * Da) ∧ Big.NatV w13 ra Da ∧ NatV w13 pa Na ∧ NatV w13 qa Da ∧ Big.NatV w13 v3 (10 ^ k) ∧ Big.NatV w13 v2 1 ∧ Big.NatV w13 v1 m ∧ Below w.heap.size w w13) := ⟨y1, N12.out.1.below y2, N12.out.2.1.below y2, N12.out.2.2.1.below y2, N12.out.2.2.2.1.below y2, N12.out.2.2.2.2.1.below y2, N12.out.2.2.2.2.2.1.below y2, N12.out.2.2.2.2.2.2.1.below y2, N12.out.2.2.2.2.2.2.2.1.below y2, N12.out.2.2.2.2.2.2.2.2.1.below y2, N12.out.2.2.2.2.2.2.2.2.2.1.below y2, N12.out.2.2.2.2.2.2.2.2.2.2.1.below y2, N12.out.2.2.2.2.2.2.2.2.2.2.2.1.below y2, N12.out.2.2.2.2.2.2.2.2.2.2.2.2.1.below y2, N12.out.2.2.2.2.2.2.2.2.2.2.2.2.2.trans (y2.mono N12.out.2.2.2.2.2.2.2.2.2.2.2.2.2.size)⟩
      clear y2 N12
      clear y1 T
      have T := times_nat N13.out.1 N13.out.2.2.2.2.2.2.2.2.2.2.2.1 GNc.out FF.out.2.1
      go_wp2_with fail
      refine T.mono ?_
      rintro x w14 ⟨uc, rfl, y1, y2⟩
      have N14 : Hid (Big.NatV w14 uc (Nc * (10 ^ k)) ∧ Big.NatV w14 tc Nc ∧ Big.NatV w14 sc (m * Dc) ∧ Big.NatV w14 rc Dc ∧ NatV w14 pc Nc ∧ NatV w14 qc Dc ∧ Big.NatV w14 ua (Na * (10 ^ k)) ∧ Big.NatV w14 ta Na ∧ Big.NatV w14 sa (m * Da) ∧ Big.NatV w14 ra Da ∧ NatV w14 pa Na ∧ NatV w14 qa Da ∧ Big.NatV w14 v3 (10 ^ k) ∧ Big.NatV w14 v2 1 ∧ Big.NatV w14 v1 m ∧ Below w.heap.size w w14) := ⟨y1, N13.out.1.below y2, N13.out.2.1.below y2, N13.out.2.2.1.below y2, N13.out.2.2.2.1.below y2, N13.out.2.2.2.2.1.below y2, N13.out.2.2.2.2.2.1.below y2, N13.out.2.2.2.2.2.2.1.below y2, N13.out.2.2.2.2.2.2.2.1.below y2, N13.out.2.2.2.2.2.2.2.2.1.below y2, N13.out.2.2.2.2.2.2.2.2.2.1.below y2, N13.out.2.2.2.2.2.2.2.2.2.2.1.below y2, N13.out.2.2.2.2.2.2.2.2.2.2.2.1.below y2, N13.out.2.2.2.2.2.2.2.2.2.2.2.2.1.below y2, N13.out.2.2.2.2.2.2.2.2.2.2.2.2.2.1.below y2, N13.out.2.2.2.2.2.2.2.2.2.2.2.2.2.2.trans (y2.mono N13.out.2.2.2.2.2.2.2.2.2.2.2.2.2.2.size)⟩
      clear y2 N13
      clear y1 T
      have T := bcmp_nat N14.out.2.2.1 N14.out.1
      rcases dn_ord Fc.out UD.out with ec | ⟨ec, ev⟩
      · rw [ec] at T
        clear ec
        go_wp2_with fail
        refine T.mono ?_
        rintro x w15 ⟨rfl, y2⟩
        have N15 : Hid (Big.NatV w15 uc (Nc * (10 ^ k)) ∧ Big.NatV w15 tc Nc ∧ Big.NatV w15 sc (m * Dc) ∧ Big.NatV w15 rc Dc ∧ NatV w15 pc Nc ∧ NatV w15 qc Dc ∧ Big.NatV w15 ua (Na * (10 ^ k)) ∧ Big.NatV w15 ta Na ∧ Big.NatV w15 sa (m * Da) ∧ Big.NatV w15 ra Da ∧ NatV w15 pa Na ∧ NatV w15 qa Da ∧ Big.NatV w15 v3 (10 ^ k) ∧ Big.NatV w15 v2 1 ∧ Big.NatV w15 v1 m ∧ Below w.heap.size w w15) := ⟨N14.out.1.below y2, N14.out.2.1.below y2, N14.out.2.2.1.below y2, N14.out.2.2.2.1.below y2, N14.out.2.2.2.2.1.below y2, N14.out.2.2.2.2.2.1.below y2, N14.out.2.2.2.2.2.2.1.below y2, N14.out.2.2.2.2.2.2.2.1.below y2, N14.out.2.2.2.2.2.2.2.2.1.below y2, N14.out.2.2.2.2.2.2.2.2.2.1.below y2, N14.out.2.2.2.2.2.2.2.2.2.2.1.below y2, N14.out.2.2.2.2.2.2.2.2.2.2.2.1.below y2, N14.out.2.2.2.2.2.2.2.2.2.2.2.2.1.below y2, N14.out.2.2.2.2.2.2.2.2.2.2.2.2.2.1.below y2, N14.out.2.2.2.2.2.2.2.2.2.2.2.2.2.2.1.below y2, N14.out.2.2.2.2.2.2.2.2.2.2.2.2.2.2.2.trans (y2.mono N14.out.2.2.2.2.2.2.2.2.2.2.2.2.2.2.2.size)⟩
        clear y2 N14
        clear T
        go_wp2_with fail
        refine (S _).mono ?_
        rintro x w15 ⟨rfl, rfl⟩
        go_wp2
        go_ret
        exact ⟨rfl, N15.out.2.2.2.2.2.2.2.2.2.2.2.2.2.2.2⟩
      · rw [ec] at T
        have e3 : (((b : Int)) % 2 == 0) = true := by simp; omega
        have e4 : ((b : Int).tmod 2 == 0) = true := by rw [Int.tmod_eq_emod_of_nonneg (by omega)]; exact e3
        clear ev
        clear ec
        go_wp2_with fail
        refine T.mono ?_
        rintro x w15 ⟨rfl, y2⟩
        have N15 : Hid (Big.NatV w15 uc (Nc * (10 ^ k)) ∧ Big.NatV w15 tc Nc ∧ Big.NatV w15 sc (m * Dc) ∧ Big.NatV w15 rc Dc ∧ NatV w15 pc Nc ∧ NatV w15 qc Dc ∧ Big.NatV w15 ua (Na * (10 ^ k)) ∧ Big.NatV w15 ta Na ∧ Big.NatV w15 sa (m * Da) ∧ Big.NatV w15 ra Da ∧ NatV w15 pa Na ∧ NatV w15 qa Da ∧ Big.NatV w15 v3 (10 ^ k) ∧ Big.NatV w15 v2 1 ∧ Big.NatV w15 v1 m ∧ Below w.heap.size w w15) := ⟨N14.out.1.below y2, N14.out.2.1.below y2, N14.out.2.2.1.below y2, N14.out.2.2.2.1.below y2, N14.out.2.2.2.2.1.below y2, N14.out.2.2.2.2.2.1.below y2, N14.out.2.2.2.2.2.2.1.below y2, N14.out.2.2.2.2.2.2.2.1.below y2, N14.out.2.2.2.2.2.2.2.2.1.below y2, N14.out.2.2.2.2.2.2.2.2.2.1.below y2, N14.out.2.2.2.2.2.2.2.2.2.2.1.below y2, N14.out.2.2.2.2.2.2.2.2.2.2.2.1.below y2, N14.out.2.2.2.2.2.2.2.2.2.2.2.2.1.below y2, N14.out.2.2.2.2.2.2.2.2.2.2.2.2.2.1.below y2, N14.out.2.2.2.2.2.2.2.2.2.2.2.2.2.2.1.below y2, N14.out.2.2.2.2.2.2.2.2.2.2.2.2.2.2.2.trans (y2.mono N14.out.2.2.2.2.2.2.2.2.2.2.2.2.2.2.2.size)⟩
        clear y2 N14
        clear T
        go_wp2_with fail
        refine (S _).mono ?_
        rintro x w15 ⟨rfl, rfl⟩
        go_wp2
        go_ret
        exact ⟨rfl, N15.out.2.2.2.2.2.2.2.2.2.2.2.2.2.2.2⟩
set_option maxRecDepth 100000 in
set_option maxHeartbeats 4000000 in
theorem near_up32 {m k b f g n T : Nat} {L : Int} (hz : Fz 32 g n f T L) (m0 : m ≠ 0) (hm : m ≤ 9007199254740992) (hk : k ≤ 22) (hb : b < n)
    (A : ∀ W, Calls Try.prog 6 #[.int .u64 (m : Int), .int .i64 (k : Int), .int .i64 32] W fun x w' => x = .returned (.tuple #[.int .u64 (b : Int), .bool true, .nilIface]) ∧ w' = W)
    (R : RD f L (m * 10 ^ k) 1 0 false b) (w : World) : Calls Try.prog 5 #[.int .u64 (m : Int), .int .i64 (k : Int), .int .i64 32] w fun x w' => x = .returned (.bool true) ∧ Below w.heap.size w w' := by
  have S := fun W => works_any W
  have S1 := fun W => small_nat m (by unfold B; omega) W
  have S2 := fun W => small_nat 1 (by unfold B; decide) W
  rw [show ((1 : Nat) : Int) = 1 from rfl] at S2
  have S3 := fun W => raised_far 10 k (by decide) (by decide) (by omega) W
  rw [show ((10 : Nat) : Int) = 10 from rfl] at S3
  have FF : Hid (Fits 1000 m ∧ Fits 1000 (10 ^ k) ∧ Fits 1000 1) := ⟨fits_ten (k := 16) (by omega) (by decide), fits_far (by decide) (by omega), fits_ten (k := 1) (by decide) (by decide)⟩
  have FX : Hid (Fits 1000 (m * 10 ^ k)) := by
    refine fits_ten (k := 16 + k) ?_ (by omega)
    rw [Nat.pow_add]
    exact Nat.mul_le_mul_right _ (by omega)
  have H := fun W => half14 hz hb W
  have HR : Hid (RD f L (m * 10 ^ k) 1 0 false b) := R
  have HH : Hid (b ≠ 0 → ∀ W, Calls Try.prog 20 #[.int .u64 ((b : Int) - 1), .int .i64 32] W fun x w' => ∃ (v1 v2 : Value) (N D : Nat), x = .returned (.tuple #[v1, v2, .int .i64 0]) ∧ NatV w' v1 N ∧ NatV w' v2 D ∧ Frc N D (hM f (b - 1)) (hX f L (b - 1)) ∧ Below W.heap.size W w') := fun z W => by
    have h := half14 hz (b := b - 1) (by omega) W
    rw [show ((b - 1 : Nat) : Int) = (b : Int) - 1 from by omega] at h
    exact h
  have b64 : b < 18446744073709551616 := by have := fz_parts hz; omega
  have c0 : ((m : Int) == 0) = false := by simp; omega
  have c1 : ¬ 400 < (k : Int) := by omega
  have c2 : ¬ (k : Int) < -400 := by omega
  have c3 : (0 : Int) ≤ (k : Int) := by omega
  clear m0 hm hz hb R
  go_enter Try.func5, Try.ntmps5
  go_wp2_with fail
  refine (A _).mono ?_
  rintro x w ⟨rfl, rfl⟩
  go_wp2_with fail
  refine (S1 _).mono ?_
  rintro x w1 ⟨v1, rfl, n1, b1⟩
  have N1 : Hid (Big.NatV w1 v1 m ∧ Below w.heap.size w w1) := ⟨n1, b1⟩
  clear b1
  clear n1 S1
  go_wp2_with fail
  refine (S2 _).mono ?_
  rintro x w2 ⟨v2, rfl, n2, b2⟩
  have N2 : Hid (Big.NatV w2 v2 1 ∧ Big.NatV w2 v1 m ∧ Below w.heap.size w w2) := ⟨n2, N1.out.1.below b2, N1.out.2.trans (b2.mono N1.out.2.size)⟩
  clear b2 N1
  clear n2 S2
  go_wp2_with fail
  refine (S3 _).mono ?_
  rintro x w3 ⟨v3, rfl, n3, b3⟩
  have N3 : Hid (Big.NatV w3 v3 (10 ^ k) ∧ Big.NatV w3 v2 1 ∧ Big.NatV w3 v1 m ∧ Below w.heap.size w w3) := ⟨n3, N2.out.1.below b3, N2.out.2.1.below b3, N2.out.2.2.trans (b3.mono N2.out.2.2.size)⟩
  clear b3 N2
  clear n3 S3
  have T := times_nat N3.out.2.2.1 N3.out.1 FF.out.1 FF.out.2.1
  go_wp2_with fail
  refine T.mono ?_
  rintro x w4 ⟨v4, rfl, n4, b4⟩
  have N4 : Hid (Big.NatV w4 v4 (m * 10 ^ k) ∧ Big.NatV w4 v3 (10 ^ k) ∧ Big.NatV w4 v2 1 ∧ Big.NatV w4 v1 m ∧ Below w.heap.size w w4) := ⟨n4, N3.out.1.below b4, N3.out.2.1.below b4, N3.out.2.2.1.below b4, N3.out.2.2.2.trans (b4.mono N3.out.2.2.2.size)⟩
  clear b4 N3
  clear n4 T
  go_wp2_with fail
  refine (H _).mono ?_
  rintro x w5 ⟨pa, qa, Na, Da, rfl, y1, y2, y3, y4⟩
  have N5 : Hid (NatV w5 pa Na ∧ NatV w5 qa Da ∧ Big.NatV w5 v4 (m * 10 ^ k) ∧ Big.NatV w5 v3 (10 ^ k) ∧ Big.NatV w5 v2 1 ∧ Big.NatV w5 v1 m ∧ Below w.heap.size w w5) := ⟨y1, y2, N4.out.1.below y4, N4.out.2.1.below y4, N4.out.2.2.1.below y4, N4.out.2.2.2.1.below y4, N4.out.2.2.2.2.trans (y4.mono N4.out.2.2.2.2.size)⟩
  clear y4 N4
  have Fa : Hid (Frc Na Da (hM f b) (hX f L b)) := y3
  clear y1 y2 y3
  obtain ⟨-, fDa, T⟩ := of_nat N5.out.2.1
  have GDa : Hid (Fits 1000 Da) := fDa.up (by decide)
  clear fDa
  go_wp2_with fail
  refine T.mono ?_
  rintro x w6 ⟨ra, rfl, y1, y2⟩
  have N6 : Hid (Big.NatV w6 ra Da ∧ NatV w6 pa Na ∧ NatV w6 qa Da ∧ Big.NatV w6 v4 (m * 10 ^ k) ∧ Big.NatV w6 v3 (10 ^ k) ∧ Big.NatV w6 v2 1 ∧ Big.NatV w6 v1 m ∧ Below w.heap.size w w6) := ⟨y1, N5.out.1.below y2, N5.out.2.1.below y2, N5.out.2.2.1.below y2, N5.out.2.2.2.1.below y2, N5.out.2.2.2.2.1.below y2, N5.out.2.2.2.2.2.1.below y2, N5.out.2.2.2.2.2.2.trans (y2.mono N5.out.2.2.2.2.2.2.size)⟩
  clear y2 N5
  clear y1 T
  have T := times_nat N6.out.2.2.2.1 N6.out.1 FX.out GDa.out
  go_wp2_with fail
  refine T.mono ?_
  rintro x w7 ⟨sa, rfl, y1, y2⟩
  have N7 : Hid (Big.NatV w7 sa ((m * 10 ^ k) * Da) ∧ Big.NatV w7 ra Da ∧ NatV w7 pa Na ∧ NatV w7 qa Da ∧ Big.NatV w7 v4 (m * 10 ^ k) ∧ Big.NatV w7 v3 (10 ^ k) ∧ Big.NatV w7 v2 1 ∧ Big.NatV w7 v1 m ∧ Below w.heap.size w w7) := ⟨y1, N6.out.1.below y2, N6.out.2.1.below y2, N6.out.2.2.1.below y2, N6.out.2.2.2.1.below y2, N6.out.2.2.2.2.1.below y2, N6.out.2.2.2.2.2.1.below y2, N6.out.2.2.2.2.2.2.1.below y2, N6.out.2.2.2.2.2.2.2.trans (y2.mono N6.out.2.2.2.2.2.2.2.size)⟩
  clear y2 N6
  clear y1 T
  obtain ⟨-, fNa, T⟩ := of_nat N7.out.2.2.1
  have GNa : Hid (Fits 1000 Na) := fNa.up (by decide)
  clear fNa
  go_wp2_with fail
  refine T.mono ?_
  rintro x w8 ⟨ta, rfl, y1, y2⟩
  have N8 : Hid (Big.NatV w8 ta Na ∧ Big.NatV w8 sa ((m * 10 ^ k) * Da) ∧ Big.NatV w8 ra Da ∧ NatV w8 pa Na ∧ NatV w8 qa Da ∧ Big.NatV w8 v4 (m * 10 ^ k) ∧ Big.NatV w8 v3 (10 ^ k) ∧ Big.NatV w8 v2 1 ∧ Big.NatV w8 v1 m ∧ Below w.heap.size w w8) := ⟨y1, N7.out.1.below y2, N7.out.2.1.below y2, N7.out.2.2.1.below y2, N7.out.2.2.2.1.below y2, N7.out.2.2.2.2.1.below y2, N7.out.2.2.2.2.2.1.below y2, N7.out.2.2.2.2.2.2.1.below y2, N7.out.2.2.2.2.2.2.2.1.below y2, N7.out.2.2.2.2.2.2.2.2.trans (y2.mono N7.out.2.2.2.2.2.2.2.2.size)⟩
  clear y2 N7
  clear y1 T
  have T := times_nat N8.out.1 N8.out.2.2.2.2.2.2.2.1 GNa.out FF.out.2.2
  go_wp2_with fail
  refine T.mono ?_
  rintro x w9 ⟨ua, rfl, y1, y2⟩
  have N9 : Hid (Big.NatV w9 ua (Na * 1) ∧ Big.NatV w9 ta Na ∧ Big.NatV w9 sa ((m * 10 ^ k) * Da) ∧ Big.NatV w9 ra Da ∧ NatV w9 pa Na ∧ NatV w9 qa Da ∧ Big.NatV w9 v4 (m * 10 ^ k) ∧ Big.NatV w9 v3 (10 ^ k) ∧ Big.NatV w9 v2 1 ∧ Big.NatV w9 v1 m ∧ Below w.heap.size w w9) := ⟨y1, N8.out.1.below y2, N8.out.2.1.below y2, N8.out.2.2.1.below y2, N8.out.2.2.2.1.below y2, N8.out.2.2.2.2.1.below y2, N8.out.2.2.2.2.2.1.below y2, N8.out.2.2.2.2.2.2.1.below y2, N8.out.2.2.2.2.2.2.2.1.below y2, N8.out.2.2.2.2.2.2.2.2.1.below y2, N8.out.2.2.2.2.2.2.2.2.2.trans (y2.mono N8.out.2.2.2.2.2.2.2.2.2.size)⟩
  clear y2 N8
  clear y1 T
  have T := bcmp_nat N9.out.2.2.1 N9.out.1
  rcases up_ord Fa.out HR.out.1 with ec | ⟨ec, ev⟩
  · rw [ec] at T
    clear ec
    go_wp2_with fail
    refine T.mono ?_
    rintro x w10 ⟨rfl, y2⟩
    have N10 : Hid (Big.NatV w10 ua (Na * 1) ∧ Big.NatV w10 ta Na ∧ Big.NatV w10 sa ((m * 10 ^ k) * Da) ∧ Big.NatV w10 ra Da ∧ NatV w10 pa Na ∧ NatV w10 qa Da ∧ Big.NatV w10 v4 (m * 10 ^ k) ∧ Big.NatV w10 v3 (10 ^ k) ∧ Big.NatV w10 v2 1 ∧ Big.NatV w10 v1 m ∧ Below w.heap.size w w10) := ⟨N9.out.1.below y2, N9.out.2.1.below y2, N9.out.2.2.1.below y2, N9.out.2.2.2.1.below y2, N9.out.2.2.2.2.1.below y2, N9.out.2.2.2.2.2.1.below y2, N9.out.2.2.2.2.2.2.1.below y2, N9.out.2.2.2.2.2.2.2.1.below y2, N9.out.2.2.2.2.2.2.2.2.1.below y2, N9.out.2.2.2.2.2.2.2.2.2.1.below y2, N9.out.2.2.2.2.2.2.2.2.2.2.trans (y2.mono N9.out.2.2.2.2.2.2.2.2.2.2.size)⟩
    clear y2 N9
    clear T
    by_cases z : b = 0
    · subst z
      go_wp2_with fail
      refine (S _).mono ?_
      rintro x w10 ⟨rfl, rfl⟩
      go_wp2
      go_ret
      exact ⟨rfl, N10.out.2.2.2.2.2.2.2.2.2.2⟩
    · have z0 : ((b : Int) == 0) = false := by simp; omega
      have H1 := HH.out z
      have UD : Hid (¬ Up f L (m * 10 ^ k) 1 0 false (b - 1)) := HR.out.2.resolve_left z
      have z1 : 1 ≤ b := by omega
      clear z
      go_wp2_with fail
      refine (H1 _).mono ?_
      rintro x w11 ⟨pc, qc, Nc, Dc, rfl, y1, y2, y3, y4⟩
      have N11 : Hid (NatV w11 pc Nc ∧ NatV w11 qc Dc ∧ Big.NatV w11 ua (Na * 1) ∧ Big.NatV w11 ta Na ∧ Big.NatV w11 sa ((m * 10 ^ k) * Da) ∧ Big.NatV w11 ra Da ∧ NatV w11 pa Na ∧ NatV w11 qa Da ∧ Big.NatV w11 v4 (m * 10 ^ k) ∧ Big.NatV w11 v3 (10 ^ k) ∧ Big.NatV w11 v2 1 ∧ Big.NatV w11 v1 m ∧ Below w.heap.size w w11) := ⟨y1, y2, N10.out.1.below y4, N10.out.2.1.below y4, N10.out.2.2.1.below y4, N10.out.2.2.2.1.below y4, N10.out.2.2.2.2.1.below y4, N10.out.2.2.2.2.2.1.below y4, N10.out.2.2.2.2.2.2.1.below y4, N10.out.2.2.2.2.2.2.2.1.below y4, N10.out.2.2.2.2.2.2.2.2.1.below y4, N10.out.2.2.2.2.2.2.2.2.2.1.below y4, N10.out.2.2.2.2.2.2.2.2.2.2.trans (y4.mono N10.out.2.2.2.2.2.2.2.2.2.2.size)⟩
      clear y4 N10
      have Fc : Hid (Frc Nc Dc (hM f (b - 1)) (hX f L (b - 1))) := y3
      clear y1 y2 y3
      obtain ⟨-, fDc, T⟩ := of_nat N11.out.2.1
      have GDc : Hid (Fits 1000 Dc) := fDc.up (by decide)
      clear fDc
      go_wp2_with fail
      refine T.mono ?_
      rintro x w12 ⟨rc, rfl, y1, y2⟩
      have N12 : Hid (Big.NatV w12 rc Dc ∧ NatV w12 pc Nc ∧ NatV w12 qc Dc ∧ Big.NatV w12 ua (Na * 1) ∧ Big.NatV w12 ta Na ∧ Big.NatV w12 sa ((m * 10 ^ k) * Da) ∧ Big.NatV w12 ra Da ∧ NatV w12 pa Na ∧ NatV w12 qa Da ∧ Big.NatV w12 v4 (m * 10 ^ k) ∧ Big.NatV w12 v3 (10 ^ k) ∧ Big.NatV w12 v2 1 ∧ Big.NatV w12 v1 m ∧ Below w.heap.size w w12) := ⟨y1, N11.out.1.below y2, N11.out.2.1.below y2, N11.out.2.2.1.below y2, N11.out.2.2.2.1.below y2, N11.out.2.2.2.2.1.below y2, N11.out.2.2.2.2.2.1.below y2, N11.out.2.2.2.2.2.2.1.below y2, N11.out.2.2.2.2.2.2.2.1.below y2, N11.out.2.2.2.2.2.2.2.2.1.below y2, N11.out.2.2.2.2.2.2.2.2.2.1.below y2, N11.out.2.2.2.2.2.2.2.2.2.2.1.below y2, N11.out.2.2.2.2.2.2.2.2.2.2.2.1.below y2, N11.out.2.2.2.2.2.2.2.2.2.2.2.2.trans (y2.mono N11.out.2.2.2.2.2.2.2.2.2.2.2.2.size)⟩
      clear y2 N11
      clear y1 T
      have T := times_nat N12.out.2.2.2.2.2.2.2.2.2.1 N12.out.1 FX.out GDc.out
      go_wp2_with fail
      refine T.mono ?_
      rintro x w13 ⟨sc, rfl, y1, y2⟩
      have N13 : Hid (Big.NatV w13 sc ((m * 10 ^ k) * Dc) ∧ Big.NatV w13 rc Dc ∧ NatV w13 pc Nc ∧ NatV w13 qc Dc ∧ Big.NatV w13 ua (Na * 1) ∧ Big.NatV w13 ta Na ∧ Big.NatV w13 sa ((m * 10 ^ k) * Da) ∧ Big.NatV w13 ra Da ∧ NatV w13 pa Na ∧ NatV w13 qa Da ∧ Big.NatV w13 v4 (m * 10 ^ k) ∧ Big.NatV w13 v3 (10 ^ k) ∧ Big.NatV w13 v2 1 ∧ Big.NatV w13 v1 m ∧ Below w.heap.size w w13) := ⟨y1, N12.out.1.below y2, N12.out.2.1.below y2, N12.out.2.2.1.below y2, N12.out.2.2.2.1.below y2, N12.out.2.2.2.2.1.below y2, N12.out.2.2.2.2.2.1.below y2, N12.out.2.2.2.2.2.2.1.below y2, N12.out.2.2.2.2.2.2.2.1.below y2, N12.out.2.2.2.2.2.2.2.2.1.below y2, N12.out.2.2.2.2.2.2.2.2.2.1.below y2, N12.out.2.2.2.2.2.2.2.2.2.2.1.below y2, N12.out.2.2.2.2.2.2.2.2.2.2.2.1.below y2, N12.out.2.2.2.2.2.2.2.2.2.2.2.2.1.below y2, N12.out.2.2.2.2.2.2.2.2.2.2.2.2.2.trans (y2.mono N12.out.2.2.2.2.2.2.2.2.2.2.2.2.2.size)⟩
      clear y2 N12
      clear y1 T
      obtain ⟨-, fNc, T⟩ := of_nat N13.out.2.2.1
      have GNc : Hid (Fits 1000 Nc) := fNc.up (by decide)
      clear fNc
      go_wp2_with fail
      refine T.mono ?_
      rintro x w14 ⟨tc, rfl, y1, y2⟩
      have N14 : Hid (Big.NatV w14 tc Nc ∧ Big.NatV w14 sc ((m * 10 ^ k) * Dc) ∧ Big.NatV w14 rc Dc ∧ NatV w14 pc Nc ∧ NatV w14 qc Dc ∧ Big.NatV w14 ua (Na * 1) ∧ Big.NatV w14 ta Na ∧ Big.NatV w14 sa ((m * 10 ^ k) * Da) ∧ Big.NatV w14 ra Da ∧ NatV w14 pa Na ∧ NatV w14 qa Da ∧ Big.NatV w14 v4 (m * 10 ^ k) ∧ Big.NatV w14 v3 (10 ^ k) ∧ Big.NatV w14 v2 1 ∧ Big.NatV w14 v1 m ∧ Below w.heap.size w w14) := ⟨y1, N13.out.1.below y2, N13.out.2.1.below y2, N13.out.2.2.1.below y2, N13.out.2.2.2.1.below y2, N13.out.2.2.2.2.1.below y2, N13.out.2.2.2.2.2.1.below y2, N13.out.2.2.2.2.2.2.1.below y2, N13.out.2.2.2.2.2.2.2.1.below y2, N13.out.2.2.2.2.2.2.2.2.1.below y2, N13.out.2.2.2.2.2.2.2.2.2.1.below y2, N13.out.2.2.2.2.2.2.2.2.2.2.1.below y2, N13.out.2.2.2.2.2.2.2.2.2.2.2.1.below y2, N13.out.2.2.2.2.2.2.2.2.2.2.2.2.1.below y2, N13.out.2.2.2.2.2.2.2.2.2.2.2.2.2.1.below y2, N13.out.2.2.2.2.2.2.2.2.2.2.2.2.2.2.trans (y2.mono N13.out.2.2.2.2.2.2.2.2.2.2.2.2.2.2.size)⟩
      clear y2 N13
      clear y1 T
      have T := times_nat N14.out.1 N14.out.2.2.2.2.2.2.2.2.2.2.2.2.2.1 GNc.out FF.out.2.2
      go_wp2_with fail
      refine T.mono ?_
      rintro x w15 ⟨uc, rfl, y1, y2⟩
      have N15 : Hid (Big.NatV w15 uc (Nc * 1) ∧ Big.NatV w15 tc Nc ∧ Big.NatV w15 sc ((m * 10 ^ k) * Dc) ∧ Big.NatV w15 rc Dc ∧ NatV w15 pc Nc ∧ NatV w15 qc Dc ∧ Big.NatV w15 ua (Na * 1) ∧ Big.NatV w15 ta Na ∧ Big.NatV w15 sa ((m * 10 ^ k) * Da) ∧ Big.NatV w15 ra Da ∧ NatV w15 pa Na ∧ NatV w15 qa Da ∧ Big.NatV w15 v4 (m * 10 ^ k) ∧ Big.NatV w15 v3 (10 ^ k) ∧ Big.NatV w15 v2 1 ∧ Big.NatV w15 v1 m ∧ Below w.heap.size w w15) := ⟨y1, N14.out.1.below y2, N14.out.2.1.below y2, N14.out.2.2.1.below y2, N14.out.2.2.2.1.below y2, N14.out.2.2.2.2.1.below y2, N14.out.2.2.2.2.2.1.below y2, N14.out.2.2.2.2.2.2.1.below y2, N14.out.2.2.2.2.2.2.2.1.below y2, N14.out.2.2.2.2.2.2.2.2.1.below y2, N14.out.2.2.2.2.2.2.2.2.2.1.below y2, N14.out.2.2.2.2.2.2.2.2.2.2.1.below y2, N14.out.2.2.2.2.2.2.2.2.2.2.2.1.below y2, N14.out.2.2.2.2.2.2.2.2.2.2.2.2.1.below y2, N14.out.2.2.2.2.2.2.2.2.2.2.2.2.2.1.below y2, N14.out.2.2.2.2.2.2.2.2.2.2.2.2.2.2.1.below y2, N14.out.2.2.2.2.2.2.2.2.2.2.2.2.2.2.2.trans (y2.mono N14.out.2.2.2.2.2.2.2.2.2.2.2.2.2.2.2.size)⟩
      clear y2 N14
      clear y1 T
      have T := bcmp_nat N15.out.2.2.1 N15.out.1
      rcases dn_ord Fc.out UD.out with ec | ⟨ec, ev⟩
      · rw [ec] at T
        clear ec
        go_wp2_with fail
        refine T.mono ?_
        rintro x w16 ⟨rfl, y2⟩
        have N16 : Hid (Big.NatV w16 uc (Nc * 1) ∧ Big.NatV w16 tc Nc ∧ Big.NatV w16 sc ((m * 10 ^ k) * Dc) ∧ Big.NatV w16 rc Dc ∧ NatV w16 pc Nc ∧ NatV w16 qc Dc ∧ Big.NatV w16 ua (Na * 1) ∧ Big.NatV w16 ta Na ∧ Big.NatV w16 sa ((m * 10 ^ k) * Da) ∧ Big.NatV w16 ra Da ∧ NatV w16 pa Na ∧ NatV w16 qa Da ∧ Big.NatV w16 v4 (m * 10 ^ k) ∧ Big.NatV w16 v3 (10 ^ k) ∧ Big.NatV w16 v2 1 ∧ Big.NatV w16 v1 m ∧ Below w.heap.size w w16) := ⟨N15.out.1.below y2, N15.out.2.1.below y2, N15.out.2.2.1.below y2, N15.out.2.2.2.1.below y2, N15.out.2.2.2.2.1.below y2, N15.out.2.2.2.2.2.1.below y2, N15.out.2.2.2.2.2.2.1.below y2, N15.out.2.2.2.2.2.2.2.1.below y2, N15.out.2.2.2.2.2.2.2.2.1.below y2, N15.out.2.2.2.2.2.2.2.2.2.1.below y2, N15.out.2.2.2.2.2.2.2.2.2.2.1.below y2, N15.out.2.2.2.2.2.2.2.2.2.2.2.1.below y2, N15.out.2.2.2.2.2.2.2.2.2.2.2.2.1.below y2, N15.out.2.2.2.2.2.2.2.2.2.2.2.2.2.1.below y2, N15.out.2.2.2.2.2.2.2.2.2.2.2.2.2.2.1.below y2, N15.out.2.2.2.2.2.2.2.2.2.2.2.2.2.2.2.1.below y2, N15.out.2.2.2.2.2.2.2.2.2.2.2.2.2.2.2.2.trans (y2.mono N15.out.2.2.2.2.2.2.2.2.2.2.2.2.2.2.2.2.size)⟩
        clear y2 N15
        clear T
        go_wp2_with fail
        refine (S _).mono ?_
        rintro x w16 ⟨rfl, rfl⟩
        go_wp2
        go_ret
        exact ⟨rfl, N16.out.2.2.2.2.2.2.2.2.2.2.2.2.2.2.2.2⟩
      · rw [ec] at T
        have e3 : (((b : Int)) % 2 == 0) = true := by simp; omega
        have e4 : ((b : Int).tmod 2 == 0) = true := by rw [Int.tmod_eq_emod_of_nonneg (by omega)]; exact e3
        clear ev
        clear ec
        go_wp2_with fail
        refine T.mono ?_
        rintro x w16 ⟨rfl, y2⟩
        have N16 : Hid (Big.NatV w16 uc (Nc * 1) ∧ Big.NatV w16 tc Nc ∧ Big.NatV w16 sc ((m * 10 ^ k) * Dc) ∧ Big.NatV w16 rc Dc ∧ NatV w16 pc Nc ∧ NatV w16 qc Dc ∧ Big.NatV w16 ua (Na * 1) ∧ Big.NatV w16 ta Na ∧ Big.NatV w16 sa ((m * 10 ^ k) * Da) ∧ Big.NatV w16 ra Da ∧ NatV w16 pa Na ∧ NatV w16 qa Da ∧ Big.NatV w16 v4 (m * 10 ^ k) ∧ Big.NatV w16 v3 (10 ^ k) ∧ Big.NatV w16 v2 1 ∧ Big.NatV w16 v1 m ∧ Below w.heap.size w w16) := ⟨N15.out.1.below y2, N15.out.2.1.below y2, N15.out.2.2.1.below y2, N15.out.2.2.2.1.below y2, N15.out.2.2.2.2.1.below y2, N15.out.2.2.2.2.2.1.below y2, N15.out.2.2.2.2.2.2.1.below y2, N15.out.2.2.2.2.2.2.2.1.below y2, N15.out.2.2.2.2.2.2.2.2.1.below y2, N15.out.2.2.2.2.2.2.2.2.2.1.below y2, N15.out.2.2.2.2.2.2.2.2.2.2.1.below y2, N15.out.2.2.2.2.2.2.2.2.2.2.2.1.below y2, N15.out.2.2.2.2.2.2.2.2.2.2.2.2.1.below y2, N15.out.2.2.2.2.2.2.2.2.2.2.2.2.2.1.below y2, N15.out.2.2.2.2.2.2.2.2.2.2.2.2.2.2.1.below y2, N15.out.2.2.2.2.2.2.2.2.2.2.2.2.2.2.2.1.below y2, N15.out.2.2.2.2.2.2.2.2.2.2.2.2.2.2.2.2.trans (y2.mono N15.out.2.2.2.2.2.2.2.2.2.2.2.2.2.2.2.2.size)⟩
        clear y2 N15
        clear T
        go_wp2_with fail
        refine (S _).mono ?_
        rintro x w16 ⟨rfl, rfl⟩
        go_wp2
        go_ret
        exact ⟨rfl, N16.out.2.2.2.2.2.2.2.2.2.2.2.2.2.2.2.2⟩
  · rw [ec] at T
    have e1 : (((b : Int)) % 2 == 1) = false := by simp; omega
    have e2 : ((b : Int).tmod 2 == 1) = false := by rw [Int.tmod_eq_emod_of_nonneg (by omega)]; exact e1
    have EV : Hid (b % 2 = 0) := ev
    clear ev
    clear ec
    go_wp2_with fail
    refine T.mono ?_
    rintro x w10 ⟨rfl, y2⟩
    have N10 : Hid (Big.NatV w10 ua (Na * 1) ∧ Big.NatV w10 ta Na ∧ Big.NatV w10 sa ((m * 10 ^ k) * Da) ∧ Big.NatV w10 ra Da ∧ NatV w10 pa Na ∧ NatV w10 qa Da ∧ Big.NatV w10 v4 (m * 10 ^ k) ∧ Big.NatV w10 v3 (10 ^ k) ∧ Big.NatV w10 v2 1 ∧ Big.NatV w10 v1 m ∧ Below w.heap.size w w10) := ⟨N9.out.1.below y2, N9.out.2.1.below y2, N9.out.2.2.1.below y2, N9.out.2.2.2.1.below y2, N9.out.2.2.2.2.1.below y2, N9.out.2.2.2.2.2.1.below y2, N9.out.2.2.2.2.2.2.1.below y2, N9.out.2.2.2.2.2.2.2.1.below y2, N9.out.2.2.2.2.2.2.2.2.1.below y2, N9.out.2.2.2.2.2.2.2.2.2.1.below y2, N9.out.2.2.2.2.2.2.2.2.2.2.trans (y2.mono N9.out.2.2.2.2.2.2.2.2.2.2.size)⟩
    clear y2 N9
    clear T
    by_cases z : b = 0
    · subst z
      go_wp2_with fail
      refine (S _).mono ?_
      rintro x w10 ⟨rfl, rfl⟩
      go_wp2
      go_ret
      exact ⟨rfl, N10.out.2.2.2.2.2.2.2.2.2.2⟩
    · have z0 : ((b : Int) == 0) = false := by simp; omega
      have H1 := HH.out z
      have UD : Hid (¬ Up f L (m * 10 ^ k) 1 0 false (b - 1)) := HR.out.2.resolve_left z
      have z1 : 1 ≤ b := by omega
      clear z
      go_wp2_with fail
      refine (H1 _).mono ?_
      rintro x w11 ⟨pc, qc, Nc, Dc, rfl, y1, y2, y3, y4⟩
      have N11 : Hid (NatV w11 pc Nc ∧ NatV w11 qc Dc ∧ Big.NatV w11 ua (Na * 1) ∧ Big.NatV w11 ta Na ∧ Big.NatV w11 sa ((m * 10 ^ k) * Da) ∧ Big.NatV w11 ra Da ∧ NatV w11 pa Na ∧ NatV w11 qa Da ∧ Big.NatV w11 v4 (m * 10 ^ k) ∧ Big.NatV w11 v3 (10 ^ k) ∧ Big.NatV w11 v2 1 ∧ Big.NatV w11 v1 m ∧ Below w.heap.size w w11) := ⟨y1, y2, N10.out.1.below y4, N10.out.2.1.below y4, N10.out.2.2.1.below y4, N10.out.2.2.2.1.below y4, N10.out.2.2.2.2.1.below y4, N10.out.2.2.2.2.2.1.below y4, N10.out.2.2.2.2.2.2.1.below y4, N10.out.2.2.2.2.2.2.2.1.below y4, N10.out.2.2.2.2.2.2.2.2.1.below y4, N10.out.2.2.2.2.2.2.2.2.2.1.below y4, N10.out.2.2.2.2.2.2.2.2.2.2.trans (y4.mono N10.out.2.2.2.2.2.2.2.2.2.2.size)⟩
      clear y4 N10
      have Fc : Hid (Frc Nc Dc (hM f (b - 1)) (hX f L (b - 1))) := y3
      clear y1 y2 y3
      obtain ⟨-, fDc, T⟩ := of_nat N11.out.2.1
      have GDc : Hid (Fits 1000 Dc) := fDc.up (by decide)
      clear fDc
      go_wp2_with fail
      refine T.mono ?_
      rintro x w12 ⟨rc, rfl, y1, y2⟩
      have N12 : Hid (Big.NatV w12 rc Dc ∧ NatV w12 pc Nc ∧ NatV w12 qc Dc ∧ Big.NatV w12 ua (Na * 1) ∧ Big.NatV w12 ta Na ∧ Big.NatV w12 sa ((m * 10 ^ k) * Da) ∧ Big.NatV w12 ra Da ∧ NatV w12 pa Na ∧ NatV w12 qa Da ∧ Big.NatV w12 v4 (m * 10 ^ k) ∧ Big.NatV w12 v3 (10 ^ k) ∧ Big.NatV w12 v2 1 ∧ Big.NatV w12 v1 m ∧ Below w.heap.size w w12) := ⟨y1, N11.out.1.below y2, N11.out.2.1.below y2, N11.out.2.2.1.below y2, N11.out.2.2.2.1.below y2, N11.out.2.2.2.2.1.below y2, N11.out.2.2.2.2.2.1.below y2, N11.out.2.2.2.2.2.2.1.below y2, N11.out.2.2.2.2.2.2.2.1.below y2, N11.out.2.2.2.2.2.2.2.2.1.below y2, N11.out.2.2.2.2.2.2.2.2.2.1.below y2, N11.out.2.2.2.2.2.2.2.2.2.2.1.below y2, N11.out.2.2.2.2.2.2.2.2.2.2.2.1.below y2, N11.out.2.2.2.2.2.2.2.2.2.2.2.2.trans (y2.mono N11.out.2.2.2.2.2.2.2.2.2.2.2.2.size)⟩
      clear y2 N11
      clear y1 T
      have T := times_nat N12.out.2.2.2.2.2.2.2.2.2.1 N12.out.1 FX.out GDc.out
      go_wp2_with fail
      refine T.mono ?_
      rintro x w13 ⟨sc, rfl, y1, y2⟩
      have N13 : Hid (Big.NatV w13 sc ((m * 10 ^ k) * Dc) ∧ Big.NatV w13 rc Dc ∧ NatV w13 pc Nc ∧ NatV w13 qc Dc ∧ Big.NatV w13 ua (Na * 1) ∧ Big.NatV w13 ta Na ∧ Big.NatV w13 sa ((m * 10 ^ k) * Da) ∧ Big.NatV w13 ra Da ∧ NatV w13 pa Na ∧ NatV w13 qa Da ∧ Big.NatV w13 v4 (m * 10 ^ k) ∧ Big.NatV w13 v3 (10 ^ k) ∧ Big.NatV w13 v2 1 ∧ Big.NatV w13 v1 m ∧ Below w.heap.size w w13) := ⟨y1, N12.out.1.below y2, N12.out.2.1.below y2, N12.out.2.2.1.below y2, N12.out.2.2.2.1.below y2, N12.out.2.2.2.2.1.below y2, N12.out.2.2.2.2.2.1.below y2, N12.out.2.2.2.2.2.2.1.below y2, N12.out.2.2.2.2.2.2.2.1.below y2, N12.out.2.2.2.2.2.2.2.2.1.below y2, N12.out.2.2.2.2.2.2.2.2.2.1.below y2, N12.out.2.2.2.2.2.2.2.2.2.2.1.below y2, N12.out.2.2.2.2.2.2.2.2.2.2.2.1.below y2, N12.out.2.2.2.2.2.2.2.2.2.2.2.2.1.below y2, N12.out.2.2.2.2.2.2.2.2.2.2.2.2.2.trans (y2.mono N12.out.2.2.2.2.2.2.2.2.2.2.2.2.2.size)⟩
      clear y2 N12
      clear y1 T
      obtain ⟨-, fNc, T⟩ := of_nat N13.out.2.2.1
      have GNc : Hid (Fits 1000 Nc) := fNc.up (by decide)
      clear fNc
      go_wp2_with fail
      refine T.mono ?_
      rintro x w14 ⟨tc, rfl, y1, y2⟩
      have N14 : Hid (Big.NatV w14 tc Nc ∧ Big.NatV w14 sc ((m * 10 ^ k) * Dc) ∧ Big.NatV w14 rc Dc ∧ NatV w14 pc Nc ∧ NatV w14 qc Dc ∧ Big.NatV w14 ua (Na * 1) ∧ Big.NatV w14 ta Na ∧ Big.NatV w14 sa ((m * 10 ^ k) * Da) ∧ Big.NatV w14 ra Da ∧ NatV w14 pa Na ∧ NatV w14 qa Da ∧ Big.NatV w14 v4 (m * 10 ^ k) ∧ Big.NatV w14 v3 (10 ^ k) ∧ Big.NatV w14 v2 1 ∧ Big.NatV w14 v1 m ∧ Below w.heap.size w w14) := ⟨y1, N13.out.1.below y2, N13.out.2.1.below y2, N13.out.2.2.1.below y2, N13.out.2.2.2.1.below y2, N13.out.2.2.2.2.1.below y2, N13.out.2.2.2.2.2.1.below y2, N13.out.2.2.2.2.2.2.1.below y2, N13.out.2.2.2.2.2.2.2.1.below y2, N13.out.2.2.2.2.2.2.2.2.1.below y2, N13.out.2.2.2.2.2.2.2.2.2.1.below y2, N13.out.2.2.2.2.2.2.2.2.2.2.1.below y2, N13.out.2.2.2.2.2.2.2.2.2.2.2.1.below y2, N13.out.2.2.2.2.2.2.2.2.2.2.2.2.1.below y2, N13.out.2.2.2.2.2.2.2.2.2.2.2.2.2.1.below y2, N13.out.2.2.2.2.2.2.2.2.2.2.2.2.2.2.trans (y2.mono N13.out.2.2.2.2.2.2.2.2.2.2.2.2.2.2.size)⟩
      clear y2 N13
      clear y1 T
      have T := times_nat N14.out.1 N14.out.2.2.2.2.2.2.2.2.2.2.2.2.2.1 GNc.out FF.out.2.2
      go_wp2_with fail
      refine T.mono ?_
      rintro x w15 ⟨uc, rfl, y1, y2⟩
      have N15 : Hid (Big.NatV w15 uc (Nc * 1) ∧ Big.NatV w15 tc Nc ∧ Big.NatV w15 sc ((m * 10 ^ k) * Dc) ∧ Big.NatV w15 rc Dc ∧ NatV w15 pc Nc ∧ NatV w15 qc Dc ∧ Big.NatV w15 ua (Na * 1) ∧ Big.NatV w15 ta Na ∧ Big.NatV w15 sa ((m * 10 ^ k) * Da) ∧ Big.NatV w15 ra Da ∧ NatV w15 pa Na ∧ NatV w15 qa Da ∧ Big.NatV w15 v4 (m * 10 ^ k) ∧ Big.NatV w15 v3 (10 ^ k) ∧ Big.NatV w15 v2 1 ∧ Big.NatV w15 v1 m ∧ Below w.heap.size w w15) := ⟨y1, N14.out.1.below y2, N14.out.2.1.below y2, N14.out.2.2.1.below y2, N14.out.2.2.2.1.below y2, N14.out.2.2.2.2.1.below y2, N14.out.2.2.2.2.2.1.below y2, N14.out.2.2.2.2.2.2.1.below y2, N14.out.2.2.2.2.2.2.2.1.below y2, N14.out.2.2.2.2.2.2.2.2.1.below y2, N14.out.2.2.2.2.2.2.2.2.2.1.below y2, N14.out.2.2.2.2.2.2.2.2.2.2.1.below y2, N14.out.2.2.2.2.2.2.2.2.2.2.2.1.below y2, N14.out.2.2.2.2.2.2.2.2.2.2.2.2.1.below y2, N14.out.2.2.2.2.2.2.2.2.2.2.2.2.2.1.below y2, N14.out.2.2.2.2.2.2.2.2.2.2.2.2.2.2.1.below y2, N14.out.2.2.2.2.2.2.2.2.2.2.2.2.2.2.2.trans (y2.mono N14.out.2.2.2.2.2.2.2.2.2.2.2.2.2.2.2.size)⟩
      clear y2 N14
      clear y1 T
      have T := bcmp_nat N15.out.2.2.1 N15.out.1
      rcases dn_ord Fc.out UD.out with ec | ⟨ec, ev⟩
      · rw [ec] at T
        clear ec
        go_wp2_with fail
        refine T.mono ?_
        rintro x w16 ⟨rfl, y2⟩
        have N16 : Hid (Big.NatV w16 uc (Nc * 1) ∧ Big.NatV w16 tc Nc ∧ Big.NatV w16 sc ((m * 10 ^ k) * Dc) ∧ Big.NatV w16 rc Dc ∧ NatV w16 pc Nc ∧ NatV w16 qc Dc ∧ Big.NatV w16 ua (Na * 1) ∧ Big.NatV w16 ta Na ∧ Big.NatV w16 sa ((m * 10 ^ k) * Da) ∧ Big.NatV w16 ra Da ∧ NatV w16 pa Na ∧ NatV w16 qa Da ∧ Big.NatV w16 v4 (m * 10 ^ k) ∧ Big.NatV w16 v3 (10 ^ k) ∧ Big.NatV w16 v2 1 ∧ Big.NatV w16 v1 m ∧ Below w.heap.size w w16) := ⟨N15.out.1.below y2, N15.out.2.1.below y2, N15.out.2.2.1.below y2, N15.out.2.2.2.1.below y2, N15.out.2.2.2.2.1.below y2, N15.out.2.2.2.2.2.1.below y2, N15.out.2.2.2.2.2.2.1.below y2, N15.out.2.2.2.2.2.2.2.1.below y2, N15.out.2.2.2.2.2.2.2.2.1.below y2, N15.out.2.2.2.2.2.2.2.2.2.1.below y2, N15.out.2.2.2.2.2.2.2.2.2.2.1.below y2, N15.out.2.2.2.2.2.2.2.2.2.2.2.1.below y2, N15.out.2.2.2.2.2.2.2.2.2.2.2.2.1.below y2, N15.out.2.2.2.2.2.2.2.2.2.2.2.2.2.1.below y2, N15.out.2.2.2.2.2.2.2.2.2.2.2.2.2.2.1.below y2, N15.out.2.2.2.2.2.2.2.2.2.2.2.2.2.2.2.1.below y2, N15.out.2.2.2.2.2.2.2.2.2.2.2.2.2.2.2.2.trans (y2.mono N15.out.2.2.2.2.2.2.2.2.2.2.2.2.2.2.2.2.size)⟩
        clear y2 N15
        clear T
        go_wp2_with fail
        refine (S _).mono ?_
        rintro x w16 ⟨rfl, rfl⟩
        go_wp2
        go_ret
        exact ⟨rfl, N16.out.2.2.2.2.2.2.2.2.2.2.2.2.2.2.2.2⟩
      · rw [ec] at T
        have e3 : (((b : Int)) % 2 == 0) = true := by simp; omega
        have e4 : ((b : Int).tmod 2 == 0) = true := by rw [Int.tmod_eq_emod_of_nonneg (by omega)]; exact e3
        clear ev
        clear ec
        go_wp2_with fail
        refine T.mono ?_
        rintro x w16 ⟨rfl, y2⟩
        have N16 : Hid (Big.NatV w16 uc (Nc * 1) ∧ Big.NatV w16 tc Nc ∧ Big.NatV w16 sc ((m * 10 ^ k) * Dc) ∧ Big.NatV w16 rc Dc ∧ NatV w16 pc Nc ∧ NatV w16 qc Dc ∧ Big.NatV w16 ua (Na * 1) ∧ Big.NatV w16 ta Na ∧ Big.NatV w16 sa ((m * 10 ^ k) * Da) ∧ Big.NatV w16 ra Da ∧ NatV w16 pa Na ∧ NatV w16 qa Da ∧ Big.NatV w16 v4 (m * 10 ^ k) ∧ Big.NatV w16 v3 (10 ^ k) ∧ Big.NatV w16 v2 1 ∧ Big.NatV w16 v1 m ∧ Below w.heap.size w w16) := ⟨N15.out.1.below y2, N15.out.2.1.below y2, N15.out.2.2.1.below y2, N15.out.2.2.2.1.below y2, N15.out.2.2.2.2.1.below y2, N15.out.2.2.2.2.2.1.below y2, N15.out.2.2.2.2.2.2.1.below y2, N15.out.2.2.2.2.2.2.2.1.below y2, N15.out.2.2.2.2.2.2.2.2.1.below y2, N15.out.2.2.2.2.2.2.2.2.2.1.below y2, N15.out.2.2.2.2.2.2.2.2.2.2.1.below y2, N15.out.2.2.2.2.2.2.2.2.2.2.2.1.below y2, N15.out.2.2.2.2.2.2.2.2.2.2.2.2.1.below y2, N15.out.2.2.2.2.2.2.2.2.2.2.2.2.2.1.below y2, N15.out.2.2.2.2.2.2.2.2.2.2.2.2.2.2.1.below y2, N15.out.2.2.2.2.2.2.2.2.2.2.2.2.2.2.2.1.below y2, N15.out.2.2.2.2.2.2.2.2.2.2.2.2.2.2.2.2.trans (y2.mono N15.out.2.2.2.2.2.2.2.2.2.2.2.2.2.2.2.2.size)⟩
        clear y2 N15
        clear T
        go_wp2_with fail
        refine (S _).mono ?_
        rintro x w16 ⟨rfl, rfl⟩
        go_wp2
        go_ret
        exact ⟨rfl, N16.out.2.2.2.2.2.2.2.2.2.2.2.2.2.2.2.2⟩
set_option maxRecDepth 100000 in
set_option maxHeartbeats 4000000 in
theorem near_dn32 {m k b f g n T : Nat} {L : Int} (hz : Fz 32 g n f T L) (m0 : m ≠ 0) (hm : m ≤ 9007199254740992) (hk : k ≤ 22) (k0 : 0 < k) (hb : b < n)
    (A : ∀ W, Calls Try.prog 6 #[.int .u64 (m : Int), .int .i64 (-(k : Int)), .int .i64 32] W fun x w' => x = .returned (.tuple #[.int .u64 (b : Int), .bool true, .nilIface]) ∧ w' = W)
    (R : RD f L m (10 ^ k) 0 false b) (w : World) : Calls Try.prog 5 #[.int .u64 (m : Int), .int .i64 (-(k : Int)), .int .i64 32] w fun x w' => x = .returned (.bool true) ∧ Below w.heap.size w w' := by
  have S := fun W => works_any W
  have S1 := fun W => small_nat m (by unfold B; omega) W
  have S2 := fun W => small_nat 1 (by unfold B; decide) W
  rw [show ((1 : Nat) : Int) = 1 from rfl] at S2
  have S3 := fun W => raised_far 10 k (by decide) (by decide) (by omega) W
  rw [show ((10 : Nat) : Int) = 10 from rfl] at S3
  have FF : Hid (Fits 1000 m ∧ Fits 1000 (10 ^ k) ∧ Fits 1000 1) := ⟨fits_ten (k := 16) (by omega) (by decide), fits_far (by decide) (by omega), fits_ten (k := 1) (by decide) (by decide)⟩
  have H := fun W => half14 hz hb W
  have HR : Hid (RD f L m (10 ^ k) 0 false b) := R
  have HH : Hid (b ≠ 0 → ∀ W, Calls Try.prog 20 #[.int .u64 ((b : Int) - 1), .int .i64 32] W fun x w' => ∃ (v1 v2 : Value) (N D : Nat), x = .returned (.tuple #[v1, v2, .int .i64 0]) ∧ NatV w' v1 N ∧ NatV w' v2 D ∧ Frc N D (hM f (b - 1)) (hX f L (b - 1)) ∧ Below W.heap.size W w') := fun z W => by
    have h := half14 hz (b := b - 1) (by omega) W
    rw [show ((b - 1 : Nat) : Int) = (b : Int) - 1 from by omega] at h
    exact h
  have b64 : b < 18446744073709551616 := by have := fz_parts hz; omega
  have c0 : ((m : Int) == 0) = false := by simp; omega
  have c1 : ¬ 400 < (-(k : Int)) := by omega
  have c2 : ¬ (-(k : Int)) < -400 := by omega
  have c3 : ¬ (0 : Int) ≤ (-(k : Int)) := by omega
  clear m0 hm hz hb R k0
  go_enter Try.func5, Try.ntmps5
  go_wp2_with fail
  refine (A _).mono ?_
  rintro x w ⟨rfl, rfl⟩
  go_wp2_with fail
  refine (S1 _).mono ?_
  rintro x w1 ⟨v1, rfl, n1, b1⟩
  have N1 : Hid (Big.NatV w1 v1 m ∧ Below w.heap.size w w1) := ⟨n1, b1⟩
  clear b1
  clear n1 S1
  go_wp2_with fail
  refine (S2 _).mono ?_
  rintro x w2 ⟨v2, rfl, n2, b2⟩
  have N2 : Hid (Big.NatV w2 v2 1 ∧ Big.NatV w2 v1 m ∧ Below w.heap.size w w2) := ⟨n2, N1.out.1.below b2, N1.out.2.trans (b2.mono N1.out.2.size)⟩
  clear b2 N1
  clear n2 S2
  go_wp2_with fail
  refine (S3 _).mono ?_
  rintro x w3 ⟨v3, rfl, n3, b3⟩
  have N3 : Hid (Big.NatV w3 v3 (10 ^ k) ∧ Big.NatV w3 v2 1 ∧ Big.NatV w3 v1 m ∧ Below w.heap.size w w3) := ⟨n3, N2.out.1.below b3, N2.out.2.1.below b3, N2.out.2.2.trans (b3.mono N2.out.2.2.size)⟩
  clear b3 N2
  clear n3 S3
  go_wp2_with fail
  refine (H _).mono ?_
  rintro x w4 ⟨pa, qa, Na, Da, rfl, y1, y2, y3, y4⟩
  have N4 : Hid (NatV w4 pa Na ∧ NatV w4 qa Da ∧ Big.NatV w4 v3 (10 ^ k) ∧ Big.NatV w4 v2 1 ∧ Big.NatV w4 v1 m ∧ Below w.heap.size w w4) := ⟨y1, y2, N3.out.1.below y4, N3.out.2.1.below y4, N3.out.2.2.1.below y4, N3.out.2.2.2.trans (y4.mono N3.out.2.2.2.size)⟩
  clear y4 N3
  have Fa : Hid (Frc Na Da (hM f b) (hX f L b)) := y3
  clear y1 y2 y3
  obtain ⟨-, fDa, T⟩ := of_nat N4.out.2.1
  have GDa : Hid (Fits 1000 Da) := fDa.up (by decide)
  clear fDa
  go_wp2_with fail
  refine T.mono ?_
  rintro x w5 ⟨ra, rfl, y1, y2⟩
  have N5 : Hid (Big.NatV w5 ra Da ∧ NatV w5 pa Na ∧ NatV w5 qa Da ∧ Big.NatV w5 v3 (10 ^ k) ∧ Big.NatV w5 v2 1 ∧ Big.NatV w5 v1 m ∧ Below w.heap.size w w5) := ⟨y1, N4.out.1.below y2, N4.out.2.1.below y2, N4.out.2.2.1.below y2, N4.out.2.2.2.1.below y2, N4.out.2.2.2.2.1.below y2, N4.out.2.2.2.2.2.trans (y2.mono N4.out.2.2.2.2.2.size)⟩
  clear y2 N4
  clear y1 T
  have T := times_nat N5.out.2.2.2.2.2.1 N5.out.1 FF.out.1 GDa.out
  go_wp2_with fail
  refine T.mono ?_
  rintro x w6 ⟨sa, rfl, y1, y2⟩
  have N6 : Hid (Big.NatV w6 sa (m * Da) ∧ Big.NatV w6 ra Da ∧ NatV w6 pa Na ∧ NatV w6 qa Da ∧ Big.NatV w6 v3 (10 ^ k) ∧ Big.NatV w6 v2 1 ∧ Big.NatV w6 v1 m ∧ Below w.heap.size w w6) := ⟨y1, N5.out.1.below y2, N5.out.2.1.below y2, N5.out.2.2.1.below y2, N5.out.2.2.2.1.below y2, N5.out.2.2.2.2.1.below y2, N5.out.2.2.2.2.2.1.below y2, N5.out.2.2.2.2.2.2.trans (y2.mono N5.out.2.2.2.2.2.2.size)⟩
  clear y2 N5
  clear y1 T
  obtain ⟨-, fNa, T⟩ := of_nat N6.out.2.2.1
  have GNa : Hid (Fits 1000 Na) := fNa.up (by decide)
  clear fNa
  go_wp2_with fail
  refine T.mono ?_
  rintro x w7 ⟨ta, rfl, y1, y2⟩
  have N7 : Hid (Big.NatV w7 ta Na ∧ Big.NatV w7 sa (m * Da) ∧ Big.NatV w7 ra Da ∧ NatV w7 pa Na ∧ NatV w7 qa Da ∧ Big.NatV w7 v3 (10 ^ k) ∧ Big.NatV w7 v2 1 ∧ Big.NatV w7 v1 m ∧ Below w.heap.size w w7) := ⟨y1, N6.out.1.below y2, N6.out.2.1.below y2, N6.out.2.2.1.below y2, N6.out.2.2.2.1.below y2, N6.out.2.2.2.2.1.below y2, N6.out.2.2.2.2.2.1.below y2, N6.out.2.2.2.2.2.2.1.below y2, N6.out.2.2.2.2.2.2.2.trans (y2.mono N6.out.2.2.2.2.2.2.2.size)⟩
  clear y2 N6
  clear y1 T
  have T := times_nat N7.out.1 N7.out.2.2.2.2.2.1 GNa.out FF.out.2.1
  go_wp2_with fail
  refine T.mono ?_
  rintro x w8 ⟨ua, rfl, y1, y2⟩
  have N8 : Hid (Big.NatV w8 ua (Na * (10 ^ k)) ∧ Big.NatV w8 ta Na ∧ Big.NatV w8 sa (m * Da) ∧ Big.NatV w8 ra Da ∧ NatV w8 pa Na ∧ NatV w8 qa Da ∧ Big.NatV w8 v3 (10 ^ k) ∧ Big.NatV w8 v2 1 ∧ Big.NatV w8 v1 m ∧ Below w.heap.size w w8) := ⟨y1, N7.out.1.below y2, N7.out.2.1.below y2, N7.out.2.2.1.below y2, N7.out.2.2.2.1.below y2, N7.out.2.2.2.2.1.below y2, N7.out.2.2.2.2.2.1.below y2, N7.out.2.2.2.2.2.2.1.below y2, N7.out.2.2.2.2.2.2.2.1.below y2, N7.out.2.2.2.2.2.2.2.2.trans (y2.mono N7.out.2.2.2.2.2.2.2.2.size)⟩
  clear y2 N7
  clear y1 T
  have T := bcmp_nat N8.out.2.2.1 N8.out.1
  rcases up_ord Fa.out HR.out.1 with ec | ⟨ec, ev⟩
  · rw [ec] at T
    clear ec
    go_wp2_with fail
    refine T.mono ?_
    rintro x w9 ⟨rfl, y2⟩
    have N9 : Hid (Big.NatV w9 ua (Na * (10 ^ k)) ∧ Big.NatV w9 ta Na ∧ Big.NatV w9 sa (m * Da) ∧ Big.NatV w9 ra Da ∧ NatV w9 pa Na ∧ NatV w9 qa Da ∧ Big.NatV w9 v3 (10 ^ k) ∧ Big.NatV w9 v2 1 ∧ Big.NatV w9 v1 m ∧ Below w.heap.size w w9) := ⟨N8.out.1.below y2, N8.out.2.1.below y2, N8.out.2.2.1.below y2, N8.out.2.2.2.1.below y2, N8.out.2.2.2.2.1.below y2, N8.out.2.2.2.2.2.1.below y2, N8.out.2.2.2.2.2.2.1.below y2, N8.out.2.2.2.2.2.2.2.1.below y2, N8.out.2.2.2.2.2.2.2.2.1.below y2, N8.out.2.2.2.2.2.2.2.2.2.trans (y2.mono N8.out.2.2.2.2.2.2.2.2.2.size)⟩
    clear y2 N8
    clear T
    by_cases z : b = 0
    · subst z
      go_wp2_with fail
      refine (S _).mono ?_
      rintro x w9 ⟨rfl, rfl⟩
      go_wp2
      go_ret
      exact ⟨rfl, N9.out.2.2.2.2.2.2.2.2.2⟩
    · have z0 : ((b : Int) == 0) = false := by simp; omega
      have H1 := HH.out z
      have UD : Hid (¬ Up f L m (10 ^ k) 0 false (b - 1)) := HR.out.2.resolve_left z
      have z1 : 1 ≤ b := by omega
      clear z
      go_wp2_with fail
      refine (H1 _).mono ?_
      rintro x w10 ⟨pc, qc, Nc, Dc, rfl, y1, y2, y3, y4⟩
      have N10 : Hid (NatV w10 pc Nc ∧ NatV w10 qc Dc ∧ Big.NatV w10 ua (Na * (10 ^ k)) ∧ Big.NatV w10 ta Na ∧ Big.NatV w10 sa (m * Da) ∧ Big.NatV w10 ra Da ∧ NatV w10 pa Na ∧ NatV w10 qa Da ∧ Big.NatV w10 v3 (10 ^ k) ∧ Big.NatV w10 v2 1 ∧ Big.NatV w10 v1 m ∧ Below w.heap.size w w10) := ⟨y1, y2, N9.out.1.below y4, N9.out.2.1.below y4, N9.out.2.2.1.below y4, N9.out.2.2.2.1.below y4, N9.out.2.2.2.2.1.below y4, N9.out.2.2.2.2.2.1.below y4, N9.out.2.2.2.2.2.2.1.below y4, N9.out.2.2.2.2.2.2.2.1.below y4, N9.out.2.2.2.2.2.2.2.2.1.below y4, N9.out.2.2.2.2.2.2.2.2.2.trans (y4.mono N9.out.2.2.2.2.2.2.2.2.2.size)⟩
      clear y4 N9
      have Fc : Hid (Frc Nc Dc (hM f (b - 1)) (hX f L (b - 1))) := y3
      clear y1 y2 y3
      obtain ⟨-, fDc, T⟩ := of_nat N10.out.2.1
      have GDc : Hid (Fits 1000 Dc) := fDc.up (by decide)
      clear fDc
      go_wp2_with fail
      refine T.mono ?_
      rintro x w11 ⟨rc, rfl, y1, y2⟩
      have N11 : Hid (Big.NatV w11 rc Dc ∧ NatV w11 pc Nc ∧ NatV w11 qc Dc ∧ Big.NatV w11 ua (Na * (10 ^ k)) ∧ Big.NatV w11 ta Na ∧ Big.NatV w11 sa (m * Da) ∧ Big.NatV w11 ra Da ∧ NatV w11 pa Na ∧ NatV w11 qa Da ∧ Big.NatV w11 v3 (10 ^ k) ∧ Big.NatV w11 v2 1 ∧ Big.NatV w11 v1 m ∧ Below w.heap.size w w11) := ⟨y1, N10.out.1.below y2, N10.out.2.1.below y2, N10.out.2.2.1.below y2, N10.out.2.2.2.1.below y2, N10.out.2.2.2.2.1.below y2, N10.out.2.2.2.2.2.1.below y2, N10.out.2.2.2.2.2.2.1.below y2, N10.out.2.2.2.2.2.2.2.1.below y2, N10.out.2.2.2.2.2.2.2.2.1.below y2, N10.out.2.2.2.2.2.2.2.2.2.1.below y2, N10.out.2.2.2.2.2.2.2.2.2.2.1.below y2, N10.out.2.2.2.2.2.2.2.2.2.2.2.trans (y2.mono N10.out.2.2.2.2.2.2.2.2.2.2.2.size)⟩
      clear y2 N10
      clear y1 T
      have T := times_nat N11.out.2.2.2.2.2.2.2.2.2.2.2.1 N11.out.1 FF.out.1 GDc.out
      go_wp2_with fail
      refine T.mono ?_
      rintro x w12 ⟨sc, rfl, y1, y2⟩
      have N12 : Hid (Big.NatV w12 sc (m * Dc) ∧ Big.NatV w12 rc Dc ∧ NatV w12 pc Nc ∧ NatV w12 qc Dc ∧ Big.NatV w12 ua (Na * (10 ^ k)) ∧ Big.NatV w12 ta Na ∧ Big.NatV w12 sa (m * Da) ∧ Big.NatV w12 ra Da ∧ NatV w12 pa Na ∧ NatV w12 qa Da ∧ Big.NatV w12 v3 (10 ^ k) ∧ Big.NatV w12 v2 1 ∧ Big.NatV w12 v1 m ∧ Below w.heap.size w w12) := ⟨y1, N11.out.1.below y2, N11.out.2.1.below y2, N11.out.2.2.1.below y2, N11.out.2.2.2.1.below y2, N11.out.2.2.2.2.1.below y2, N11.out.2.2.2.2.2.1.below y2, N11.out.2.2.2.2.2.2.1.below y2, N11.out.2.2.2.2.2.2.2.1.below y2, N11.out.2.2.2.2.2.2.2.2.1.below y2, N11.out.2.2.2.2.2.2.2.2.2.1.below y2, N11.out.2.2.2.2.2.2.2.2.2.2.1.below y2, N11.out.2.2.2.2.2.2.2.2.2.2.2.1.below y2, N11.out.2.2.2.2.2.2.2.2.2.2.2.2.trans (y2.mono N11.out.2.2.2.2.2.2.2.2.2.2.2.2.size)⟩
      clear y2 N11
      clear y1 T
      obtain ⟨-, fNc, T⟩ := of_nat N12.out.2.2.1
      have GNc : Hid (Fits 1000 Nc) := fNc.up (by decide)
      clear fNc
      go_wp2_with fail
      refine T.mono ?_
      rintro x w13 ⟨tc, rfl, y1, y2⟩
      have N13 : Hid (Big.NatV w13 tc Nc ∧ Big.NatV w13 sc (m * Dc) ∧ Big.NatV w13 rc Dc ∧ NatV w13 pc Nc ∧ NatV w13 qc Dc ∧ Big.NatV w13 ua (Na * (10 ^ k)) ∧ Big.NatV w13 ta Na ∧ Big.NatV w13 sa (m * Da) ∧ Big.NatV w13 ra Da ∧ NatV w13 pa Na ∧ NatV w13 qa Da ∧ Big.NatV w13 v3 (10 ^ k) ∧ Big.NatV w13 v2 1 ∧ Big.NatV w13 v1 m ∧ Below w.heap.size w w13) := ⟨y1, N12.out.1.below y2, N12.out.2.1.below y2, N12.out.2.2.1.below y2, N12.out.2.2.2.1.below y2, N12.out.2.2.2.2.1.below y2, N12.out.2.2.2.2.2.1.below y2, N12.out.2.2.2.2.2.2.1.below y2, N12.out.2.2.2.2.2.2.2.1.below y2, N12.out.2.2.2.2.2.2.2.2.1.below y2, N12.out.2.2.2.2.2.2.2.2.2.1.below y2, N12.out.2.2.2.2.2.2.2.2.2.2.1.below y2, N12.out.2.2.2.2.2.2.2.2.2.2.2.1.below y2, N12.out.2.2.2.2.2.2.2.2.2.2.2.2.1.below y2, N12.out.2.2.2.2.2.2.2.2.2.2.2.2.2.trans (y2.mono N12.out.2.2.2.2.2.2.2.2.2.2.2.2.2.size)⟩
      clear y2 N12
      clear y1 T
      have T := times_nat N13.out.1 N13.out.2.2.2.2.2.2.2.2.2.2.2.1 GNc.out FF.out.2.1
      go_wp2_with fail
      refine T.mono ?_
      rintro x w14 ⟨uc, rfl, y1, y2⟩
      have N14 : Hid (Big.NatV w14 uc (Nc * (10 ^ k)) ∧ Big.NatV w14 tc Nc ∧ Big.NatV w14 sc (m * Dc) ∧ Big.NatV w14 rc Dc ∧ NatV w14 pc Nc ∧ NatV w14 qc Dc ∧ Big.NatV w14 ua (Na * (10 ^ k)) ∧ Big.NatV w14 ta Na ∧ Big.NatV w14 sa (m * Da) ∧ Big.NatV w14 ra Da ∧ NatV w14 pa Na ∧ NatV w14 qa Da ∧ Big.NatV w14 v3 (10 ^ k) ∧ Big.NatV w14 v2 1 ∧ Big.NatV w14 v1 m ∧ Below w.heap.size w w14) := ⟨y1, N13.out.1.below y2, N13.out.2.1.below y2, N13.out.2.2.1.below y2, N13.out.2.2.2.1.below y2, N13.out.2.2.2.2.1.below y2, N13.out.2.2.2.2.2.1.below y2, N13.out.2.2.2.2.2.2.1.below y2, N13.out.2.2.2.2.2.2.2.1.below y2, N13.out.2.2.2.2.2.2.2.2.1.below y2, N13.out.2.2.2.2.2.2.2.2.2.1.below y2, N13.out.2.2.2.2.2.2.2.2.2.2.1.below y2, N13.out.2.2.2.2.2.2.2.2.2.2.2.1.below y2, N13.out.2.2.2.2.2.2.2.2.2.2.2.2.1.below y2, N13.out.2.2.2.2.2.2.2.2.2.2.2.2.2.1.below y2, N13.out.2.2.2.2.2.2.2.2.2.2.2.2.2.2.trans (y2.mono N13.out.2.2.2.2.2.2.2.2.2.2.2.2.2.2.size)⟩
      clear y2 N13
      clear y1 T
      have T := bcmp_nat N14.out.2.2.1 N14.out.1
      rcases dn_ord Fc.out UD.out with ec | ⟨ec, ev⟩
      · rw [ec] at T
        clear ec
        go_wp2_with fail
        refine T.mono ?_
        rintro x w15 ⟨rfl, y2⟩
        have N15 : Hid (Big.NatV w15 uc (Nc * (10 ^ k)) ∧ Big.NatV w15 tc Nc ∧ Big.NatV w15 sc (m * Dc) ∧ Big.NatV w15 rc Dc ∧ NatV w15 pc Nc ∧ NatV w15 qc Dc ∧ Big.NatV w15 ua (Na * (10 ^ k)) ∧ Big.NatV w15 ta Na ∧ Big.NatV w15 sa (m * Da) ∧ Big.NatV w15 ra Da ∧ NatV w15 pa Na ∧ NatV w15 qa Da ∧ Big.NatV w15 v3 (10 ^ k) ∧ Big.NatV w15 v2 1 ∧ Big.NatV w15 v1 m ∧ Below w.heap.size w w15) := ⟨N14.out.1.below y2, N14.out.2.1.below y2, N14.out.2.2.1.below y2, N14.out.2.2.2.1.below y2, N14.out.2.2.2.2.1.below y2, N14.out.2.2.2.2.2.1.below y2, N14.out.2.2.2.2.2.2.1.below y2, N14.out.2.2.2.2.2.2.2.1.below y2, N14.out.2.2.2.2.2.2.2.2.1.below y2, N14.out.2.2.2.2.2.2.2.2.2.1.below y2, N14.out.2.2.2.2.2.2.2.2.2.2.1.below y2, N14.out.2.2.2.2.2.2.2.2.2.2.2.1.below y2, N14.out.2.2.2.2.2.2.2.2.2.2.2.2.1.below y2, N14.out.2.2.2.2.2.2.2.2.2.2.2.2.2.1.below y2, N14.out.2.2.2.2.2.2.2.2.2.2.2.2.2.2.1.below y2, N14.out.2.2.2.2.2.2.2.2.2.2.2.2.2.2.2.trans (y2.mono N14.out.2.2.2.2.2.2.2.2.2.2.2.2.2.2.2.size)⟩
        clear y2 N14
        clear T
        go_wp2_with fail
        refine (S _).mono ?_
        rintro x w15 ⟨rfl, rfl⟩
        go_wp2
        go_ret
        exact ⟨rfl, N15.out.2.2.2.2.2.2.2.2.2.2.2.2.2.2.2⟩
      · rw [ec] at T
        have e3 : (((b : Int)) % 2 == 0) = true := by simp; omega
        have e4 : ((b : Int).tmod 2 == 0) = true := by rw [Int.tmod_eq_emod_of_nonneg (by omega)]; exact e3
        clear ev
        clear ec
        go_wp2_with fail
        refine T.mono ?_
        rintro x w15 ⟨rfl, y2⟩
        have N15 : Hid (Big.NatV w15 uc (Nc * (10 ^ k)) ∧ Big.NatV w15 tc Nc ∧ Big.NatV w15 sc (m * Dc) ∧ Big.NatV w15 rc Dc ∧ NatV w15 pc Nc ∧ NatV w15 qc Dc ∧ Big.NatV w15 ua (Na * (10 ^ k)) ∧ Big.NatV w15 ta Na ∧ Big.NatV w15 sa (m * Da) ∧ Big.NatV w15 ra Da ∧ NatV w15 pa Na ∧ NatV w15 qa Da ∧ Big.NatV w15 v3 (10 ^ k) ∧ Big.NatV w15 v2 1 ∧ Big.NatV w15 v1 m ∧ Below w.heap.size w w15) := ⟨N14.out.1.below y2, N14.out.2.1.below y2, N14.out.2.2.1.below y2, N14.out.2.2.2.1.below y2, N14.out.2.2.2.2.1.below y2, N14.out.2.2.2.2.2.1.below y2, N14.out.2.2.2.2.2.2.1.below y2, N14.out.2.2.2.2.2.2.2.1.below y2, N14.out.2.2.2.2.2.2.2.2.1.below y2, N14.out.2.2.2.2.2.2.2.2.2.1.below y2, N14.out.2.2.2.2.2.2.2.2.2.2.1.below y2, N14.out.2.2.2.2.2.2.2.2.2.2.2.1.below y2, N14.out.2.2.2.2.2.2.2.2.2.2.2.2.1.below y2, N14.out.2.2.2.2.2.2.2.2.2.2.2.2.2.1.below y2, N14.out.2.2.2.2.2.2.2.2.2.2.2.2.2.2.1.below y2, N14.out.2.2.2.2.2.2.2.2.2.2.2.2.2.2.2.trans (y2.mono N14.out.2.2.2.2.2.2.2.2.2.2.2.2.2.2.2.size)⟩
        clear y2 N14
        clear T
        go_wp2_with fail
        refine (S _).mono ?_
        rintro x w15 ⟨rfl, rfl⟩
        go_wp2
        go_ret
        exact ⟨rfl, N15.out.2.2.2.2.2.2.2.2.2.2.2.2.2.2.2⟩
  · rw [ec] at T
    have e1 : (((b : Int)) % 2 == 1) = false := by simp; omega
    have e2 : ((b : Int).tmod 2 == 1) = false := by rw [Int.tmod_eq_emod_of_nonneg (by omega)]; exact e1
    have EV : Hid (b % 2 = 0) := ev
    clear ev
    clear ec
    go_wp2_with fail
    refine T.mono ?_
    rintro x w9 ⟨rfl, y2⟩
    have N9 : Hid (Big.NatV w9 ua (Na * (10 ^ k)) ∧ Big.NatV w9 ta Na ∧ Big.NatV w9 sa (m * Da) ∧ Big.NatV w9 ra Da ∧ NatV w9 pa Na ∧ NatV w9 qa Da ∧ Big.NatV w9 v3 (10 ^ k) ∧ Big.NatV w9 v2 1 ∧ Big.NatV w9 v1 m ∧ Below w.heap.size w w9) := ⟨N8.out.1.below y2, N8.out.2.1.below y2, N8.out.2.2.1.below y2, N8.out.2.2.2.1.below y2, N8.out.2.2.2.2.1.below y2, N8.out.2.2.2.2.2.1.below y2, N8.out.2.2.2.2.2.2.1.below y2, N8.out.2.2.2.2.2.2.2.1.below y2, N8.out.2.2.2.2.2.2.2.2.1.below y2, N8.out.2.2.2.2.2.2.2.2.2.trans (y2.mono N8.out.2.2.2.2.2.2.2.2.2.size)⟩
    clear y2 N8
    clear T
    by_cases z : b = 0
    · subst z
      go_wp2_with fail
      refine (S _).mono ?_
      rintro x w9 ⟨rfl, rfl⟩
      go_wp2
      go_ret
      exact ⟨rfl, N9.out.2.2.2.2.2.2.2.2.2⟩
    · have z0 : ((b : Int) == 0) = false := by simp; omega
      have H1 := HH.out z
      have UD : Hid (¬ Up f L m (10 ^ k) 0 false (b - 1)) := HR.out.2.resolve_left z
      have z1 : 1 ≤ b := by omega
      clear z
      go_wp2_with fail
      refine (H1 _).mono ?_
      rintro x w10 ⟨pc, qc, Nc, Dc, rfl, y1, y2, y3, y4⟩
      have N10 : Hid (NatV w10 pc Nc ∧ NatV w10 qc Dc ∧ Big.NatV w10 ua (Na * (10 ^ k)) ∧ Big.NatV w10 ta Na ∧ Big.NatV w10 sa (m * Da) ∧ Big.NatV w10 ra Da ∧ NatV w10 pa Na ∧ NatV w10 qa Da ∧ Big.NatV w10 v3 (10 ^ k) ∧ Big.NatV w10 v2 1 ∧ Big.NatV w10 v1 m ∧ Below w.heap.size w w10) := ⟨y1, y2, N9.out.1.below y4, N9.out.2.1.below y4, N9.out.2.2.1.below y4, N9.out.2.2.2.1.below y4, N9.out.2.2.2.2.1.below y4, N9.out.2.2.2.2.2.1.below y4, N9.out.2.2.2.2.2.2.1.below y4, N9.out.2.2.2.2.2.2.2.1.below y4, N9.out.2.2.2.2.2.2.2.2.1.below y4, N9.out.2.2.2.2.2.2.2.2.2.trans (y4.mono N9.out.2.2.2.2.2.2.2.2.2.size)⟩
      clear y4 N9
      have Fc : Hid (Frc Nc Dc (hM f (b - 1)) (hX f L (b - 1))) := y3
      clear y1 y2 y3
      obtain ⟨-, fDc, T⟩ := of_nat N10.out.2.1
      have GDc : Hid (Fits 1000 Dc) := fDc.up (by decide)
      clear fDc
      go_wp2_with fail
      refine T.mono ?_
      rintro x w11 ⟨rc, rfl, y1, y2⟩
      have N11 : Hid (Big.NatV w11 rc Dc ∧ NatV w11 pc Nc ∧ NatV w11 qc Dc ∧ Big.NatV w11 ua (Na * (10 ^ k)) ∧ Big.NatV w11 ta Na ∧ Big.NatV w11 sa (m * Da) ∧ Big.NatV w11 ra Da ∧ NatV w11 pa Na ∧ NatV w11 qa Da ∧ Big.NatV w11 v3 (10 ^ k) ∧ Big.NatV w11 v2 1 ∧ Big.NatV w11 v1 m ∧ Below w.heap.size w w11) := ⟨y1, N10.out.1.below y2, N10.out.2.1.below y2, N10.out.2.2.1.below y2, N10.out.2.2.2.1.below y2, N10.out.2.2.2.2.1.below y2, N10.out.2.2.2.2.2.1.below y2, N10.out.2.2.2.2.2.2.1.below y2, N10.out.2.2.2.2.2.2.2.1.below y2, N10.out.2.2.2.2.2.2.2.2.1.below y2, N10.out.2.2.2.2.2.2.2.2.2.1.below y2, N10.out.2.2.2.2.2.2.2.2.2.2.1.below y2, N10.out.2.2.2.2.2.2.2.2.2.2.2.trans (y2.mono N10.out.2.2.2.2.2.2.2.2.2.2.2.size)⟩
      clear y2 N10
      clear y1 T
      have T := times_nat N11.out.2.2.2.2.2.2.2.2.2.2.2.1 N11.out.1 FF.out.1 GDc.out
      go_wp2_with fail
      refine T.mono ?_
      rintro x w12 ⟨sc, rfl, y1, y2⟩
      have N12 : Hid (Big.NatV w12 sc (m * Dc) ∧ Big.NatV w12 rc Dc ∧ NatV w12 pc Nc ∧ NatV w12 qc Dc ∧ Big.NatV w12 ua (Na * (10 ^ k)) ∧ Big.NatV w12 ta Na ∧ Big.NatV w12 sa (m * Da) ∧ Big.NatV w12 ra Da ∧ NatV w12 pa Na ∧ NatV w12 qa Da ∧ Big.NatV w12 v3 (10 ^ k) ∧ Big.NatV w12 v2 1 ∧ Big.NatV w12 v1 m ∧ Below w.heap.size w w12) := ⟨y1, N11.out.1.below y2, N11.out.2.1.below y2, N11.out.2.2.1.below y2, N11.out.2.2.2.1.below y2, N11.out.2.2.2.2.1.below y2, N11.out.2.2.2.2.2.1.below y2, N11.out.2.2.2.2.2.2.1.below y2, N11.out.2.2.2.2.2.2.2.1.below y2, N11.out.2.2.2.2.2.2.2.2.1.below y2, N11.out.2.2.2.2.2.2.2.2.2.1.below y2, N11.out.2.2.2.2.2.2.2.2.2.2.1.below y2, N11.out.2.2.2.2.2.2.2.2.2.2.2.1.below y2, N11.out.2.2.2.2.2.2.2.2.2.2.2.2.trans (y2.mono N11.out.2.2.2.2.2.2.2.2.2.2.2.2.size)⟩
      clear y2 N11
      clear y1 T
      obtain ⟨-, fNc, T⟩ := of_nat N12.out.2.2.1
      have GNc : Hid (Fits 1000 Nc) := fNc.up (by decide)
      clear fNc
      go_wp2_with fail
      refine T.mono ?_
      rintro x w13 ⟨tc, rfl, y1, y2⟩
      have N13 : Hid (Big.NatV w13 tc Nc ∧ Big.NatV w13 sc (m * Dc) ∧ Big.NatV w13 rc Dc ∧ NatV w13 pc Nc ∧ NatV w13 qc Dc ∧ Big.NatV w13 ua (Na * (10 ^ k)) ∧ Big.NatV w13 ta Na ∧ Big.NatV w13 sa (m * Da) ∧ Big.NatV w13 ra Da ∧ NatV w13 pa Na ∧ NatV w13 qa Da ∧ Big.NatV w13 v3 (10 ^ k) ∧ Big.NatV w13 v2 1 ∧ Big.NatV w13 v1 m ∧ Below w.heap.size w w13) := ⟨y1, N12.out.1.below y2, N12.out.2.1.below y2, N12.out.2.2.1.below y2, N12.out.2.2.2.1.below y2, N12.out.2.2.2.2.1.below y2, N12.out.2.2.2.2.2.1.below y2, N12.out.2.2.2.2.2.2.1.below y2, N12.out.2.2.2.2.2.2.2.1.below y2, N12.out.2.2.2.2.2.2.2.2.1.below y2, N12.out.2.2.2.2.2.2.2.2.2.1.below y2, N12.out.2.2.2.2.2.2.2.2.2.2.1.below y2, N12.out.2.2.2.2.2.2.2.2.2.2.2.1.below y2, N12.out.2.2.2.2.2.2.2.2.2.2.2.2.1.below y2, N12.out.2.2.2.2.2.2.2.2.2.2.2.2.2.trans (y2.mono N12.out.2.2.2.2.2.2.2.2.2.2.2.2.2.size)⟩
      clear y2 N12
      clear y1 T
      have T := times_nat N13.out.1 N13.out.2.2.2.2.2.2.2.2.2.2.2.1 GNc.out FF.out.2.1
      go_wp2_with fail
      refine T.mono ?_
      rintro x w14 ⟨uc, rfl, y1, y2⟩
      have N14 : Hid (Big.NatV w14 uc (Nc * (10 ^ k)) ∧ Big.NatV w14 tc Nc ∧ Big.NatV w14 sc (m * Dc) ∧ Big.NatV w14 rc Dc ∧ NatV w14 pc Nc ∧ NatV w14 qc Dc ∧ Big.NatV w14 ua (Na * (10 ^ k)) ∧ Big.NatV w14 ta Na ∧ Big.NatV w14 sa (m * Da) ∧ Big.NatV w14 ra Da ∧ NatV w14 pa Na ∧ NatV w14 qa Da ∧ Big.NatV w14 v3 (10 ^ k) ∧ Big.NatV w14 v2 1 ∧ Big.NatV w14 v1 m ∧ Below w.heap.size w w14) := ⟨y1, N13.out.1.below y2, N13.out.2.1.below y2, N13.out.2.2.1.below y2, N13.out.2.2.2.1.below y2, N13.out.2.2.2.2.1.below y2, N13.out.2.2.2.2.2.1.below y2, N13.out.2.2.2.2.2.2.1.below y2, N13.out.2.2.2.2.2.2.2.1.below y2, N13.out.2.2.2.2.2.2.2.2.1.below y2, N13.out.2.2.2.2.2.2.2.2.2.1.below y2, N13.out.2.2.2.2.2.2.2.2.2.2.1.below y2, N13.out.2.2.2.2.2.2.2.2.2.2.2.1.below y2, N13.out.2.2.2.2.2.2.2.2.2.2.2.2.1.below y2, N13.out.2.2.2.2.2.2.2.2.2.2.2.2.2.1.below y2, N13.out.2.2.2.2.2.2.2.2.2.2.2.2.2.2.trans (y2.mono N13.out.2.2.2.2.2.2.2.2.2.2.2.2.2.2.size)⟩
      clear y2 N13
      clear y1 T
      have T := bcmp_nat N14.out.2.2.1 N14.out.1
      rcases dn_ord Fc.out UD.out with ec | ⟨ec, ev⟩
      · rw [ec] at T
        clear ec
        go_wp2_with fail
        refine T.mono ?_
        rintro x w15 ⟨rfl, y2⟩
        have N15 : Hid (Big.NatV w15 uc (Nc * (10 ^ k)) ∧ Big.NatV w15 tc Nc ∧ Big.NatV w15 sc (m * Dc) ∧ Big.NatV w15 rc Dc ∧ NatV w15 pc Nc ∧ NatV w15 qc Dc ∧ Big.NatV w15 ua (Na * (10 ^ k)) ∧ Big.NatV w15 ta Na ∧ Big.NatV w15 sa (m * Da) ∧ Big.NatV w15 ra Da ∧ NatV w15 pa Na ∧ NatV w15 qa Da ∧ Big.NatV w15 v3 (10 ^ k) ∧ Big.NatV w15 v2 1 ∧ Big.NatV w15 v1 m ∧ Below w.heap.size w w15) := ⟨N14.out.1.below y2, N14.out.2.1.below y2, N14.out.2.2.1.below y2, N14.out.2.2.2.1.below y2, N14.out.2.2.2.2.1.below y2, N14.out.2.2.2.2.2.1.below y2, N14.out.2.2.2.2.2.2.1.below y2, N14.out.2.2.2.2.2.2.2.1.below y2, N14.out.2.2.2.2.2.2.2.2.1.below y2, N14.out.2.2.2.2.2.2.2.2.2.1.below y2, N14.out.2.2.2.2.2.2.2.2.2.2.1.below y2, N14.out.2.2.2.2.2.2.2.2.2.2.2.1.below y2, N14.out.2.2.2.2.2.2.2.2.2.2.2.2.1.below y2, N14.out.2.2.2.2.2.2.2.2.2.2.2.2.2.1.below y2, N14.out.2.2.2.2.2.2.2.2.2.2.2.2.2.2.1.below y2, N14.out.2.2.2.2.2.2.2.2.2.2.2.2.2.2.2.trans (y2.mono N14.out.2.2.2.2.2.2.2.2.2.2.2.2.2.2.2.size)⟩
        clear y2 N14
        clear T
        go_wp2_with fail
        refine (S _).mono ?_
        rintro x w15 ⟨rfl, rfl⟩
        go_wp2
        go_ret
        exact ⟨rfl, N15.out.2.2.2.2.2.2.2.2.2.2.2.2.2.2.2⟩
      · rw [ec] at T
        have e3 : (((b : Int)) % 2 == 0) = true := by simp; omega
        have e4 : ((b : Int).tmod 2 == 0) = true := by rw [Int.tmod_eq_emod_of_nonneg (by omega)]; exact e3
        clear ev
        clear ec
        go_wp2_with fail
        refine T.mono ?_
        rintro x w15 ⟨rfl, y2⟩
        have N15 : Hid (Big.NatV w15 uc (Nc * (10 ^ k)) ∧ Big.NatV w15 tc Nc ∧ Big.NatV w15 sc (m * Dc) ∧ Big.NatV w15 rc Dc ∧ NatV w15 pc Nc ∧ NatV w15 qc Dc ∧ Big.NatV w15 ua (Na * (10 ^ k)) ∧ Big.NatV w15 ta Na ∧ Big.NatV w15 sa (m * Da) ∧ Big.NatV w15 ra Da ∧ NatV w15 pa Na ∧ NatV w15 qa Da ∧ Big.NatV w15 v3 (10 ^ k) ∧ Big.NatV w15 v2 1 ∧ Big.NatV w15 v1 m ∧ Below w.heap.size w w15) := ⟨N14.out.1.below y2, N14.out.2.1.below y2, N14.out.2.2.1.below y2, N14.out.2.2.2.1.below y2, N14.out.2.2.2.2.1.below y2, N14.out.2.2.2.2.2.1.below y2, N14.out.2.2.2.2.2.2.1.below y2, N14.out.2.2.2.2.2.2.2.1.below y2, N14.out.2.2.2.2.2.2.2.2.1.below y2, N14.out.2.2.2.2.2.2.2.2.2.1.below y2, N14.out.2.2.2.2.2.2.2.2.2.2.1.below y2, N14.out.2.2.2.2.2.2.2.2.2.2.2.1.below y2, N14.out.2.2.2.2.2.2.2.2.2.2.2.2.1.below y2, N14.out.2.2.2.2.2.2.2.2.2.2.2.2.2.1.below y2, N14.out.2.2.2.2.2.2.2.2.2.2.2.2.2.2.1.below y2, N14.out.2.2.2.2.2.2.2.2.2.2.2.2.2.2.2.trans (y2.mono N14.out.2.2.2.2.2.2.2.2.2.2.2.2.2.2.2.size)⟩
        clear y2 N14
        clear T
        go_wp2_with fail
        refine (S _).mono ?_
        rintro x w15 ⟨rfl, rfl⟩
        go_wp2
        go_ret
        exact ⟨rfl, N15.out.2.2.2.2.2.2.2.2.2.2.2.2.2.2.2⟩
/-- No answer of the small road is an infinity. -/
theorem top32 : (rdA 23 255 (-149) (16777216 * 10 ^ 10) 1 0 false).1 < 255 * 2 ^ 23 := by decide +kernel
theorem top64 : (rdA 52 2047 (-1074) (9007199254740992 * 10 ^ 22) 1 0 false).1 < 2047 * 2 ^ 52 := by decide +kernel
theorem xz_top {s : Int} {f T : Nat} {L : Int} {M K : Nat} (h : Xz s f T L M K) : (rdA f T L (M * 10 ^ K) 1 0 false).1 < T * 2 ^ f := by
  rcases h with ⟨rfl, rfl, rfl, rfl, rfl, rfl⟩ | ⟨rfl, rfl, rfl, rfl, rfl, rfl⟩
  · exact top32
  · exact top64
theorem exA_fin {s : Int} {f T : Nat} {L : Int} {M K : Nat} (h : Xz s f T L M K) {m : Nat} {e : Int} (hm : m ≤ M) (h1 : e ≤ K) : exA f T L m e < T * 2 ^ f := by
  obtain ⟨pf, _, _, _⟩ := xz_pos h
  have a : (rdA f T L (m * 10 ^ e.toNat) (10 ^ (-e).toNat) 0 false).1 ≤ (rdA f T L (m * 10 ^ e.toNat * 10 ^ (-e).toNat) (10 ^ (-e).toNat) 0 false).1 := rdA_mono pf (ten_ne _) (Nat.le_mul_of_pos_right _ (Nat.pow_pos (by decide)))
  have b : rdA f T L (m * 10 ^ e.toNat * 10 ^ (-e).toNat) (10 ^ (-e).toNat) 0 false = rdA f T L (m * 10 ^ e.toNat) 1 0 false := rdA_same pf (ten_ne _) (by decide) (by rw [Nat.mul_one]; exact ⟨0, Int.le_refl _, Int.le_refl _, rfl⟩)
  have c : (rdA f T L (m * 10 ^ e.toNat) 1 0 false).1 ≤ (rdA f T L (M * 10 ^ K) 1 0 false).1 := rdA_mono pf (by decide) (Nat.mul_le_mul hm (Nat.pow_le_pow_right (by decide) (by omega)))
  have d := xz_top h
  rw [b] at a
  unfold exA
  omega
theorem near_law (m : Nat) (hm : m < 18446744073709551616) (e s : Int) (w : World) : Calls Try.prog 5 #[.int .u64 (m : Int), .int .i64 e, .int .i64 s] w fun x w' => x = .returned (.bool true) ∧ Below w.heap.size w w' := by
  have up : ∀ {x : Ending} {w' : World}, x = .returned (.bool true) ∧ w' = w → x = .returned (.bool true) ∧ Below w.heap.size w w' := fun ⟨a, b⟩ => ⟨a, by rw [b]; exact Below.refl _ _⟩
  rcases xz_of s with h | ⟨f, T, L, M, K, h⟩
  · exact (near_no h m e w).mono fun x w' q => up q
  · by_cases m0 : m = 0
    · subst m0
      rcases h with ⟨rfl, rfl, rfl, rfl, rfl, rfl⟩ | ⟨rfl, rfl, rfl, rfl, rfl, rfl⟩
      · exact (near_zero32 (fun W => of_zero x32 e W) w).mono fun x w' q => up q
      · exact (near_zero64 (fun W => of_zero x64 e W) w).mono fun x w' q => up q
    · by_cases c : M < m ∨ e < -(K : Int) ∨ (K : Int) < e
      · rcases h with ⟨rfl, rfl, rfl, rfl, rfl, rfl⟩ | ⟨rfl, rfl, rfl, rfl, rfl, rfl⟩
        · exact (near_un32 (fun W => of_un x32 m0 (by omega) W) w).mono fun x w' q => up q
        · exact (near_un64 (fun W => of_un x64 m0 (by omega) W) w).mono fun x w' q => up q
      · obtain ⟨g, n, hz⟩ := fz_xz h
        obtain ⟨pf, _, pM, pK⟩ := xz_pos h
        have A := fun W => of_yes h (m := m) (e := e) m0 (by omega) (by omega) (by omega) W
        have F := exA_fin h (m := m) (e := e) (by omega) (by omega)
        have R := (exA_rd (T := T) pf (L := L) (e := e) m0).resolve_left (by omega)
        have hb := R.1
        rw [← (fz_parts hz).1] at hb
        by_cases e0 : 0 ≤ e
        · obtain ⟨k, rfl⟩ : ∃ k : Nat, e = (k : Int) := ⟨e.toNat, by omega⟩
          have R2 := R.2
          rw [Int.toNat_natCast, show (-(k : Int)).toNat = 0 from by omega, Nat.pow_zero] at R2
          have hs : s = 32 ∨ s = 64 := by rcases h with ⟨q, _⟩ | ⟨q, _⟩ <;> omega
          rcases hs with rfl | rfl
          · exact near_up32 hz m0 (by omega) (by omega) hb A R2 w
          · exact near_up64 hz m0 (by omega) (by omega) hb A R2 w
        · obtain ⟨k, rfl⟩ : ∃ k : Nat, e = -(k : Int) := ⟨(-e).toNat, by omega⟩
          have R2 := R.2
          rw [show (- -(k : Int)).toNat = k from by omega, show (-(k : Int)).toNat = 0 from by omega, Nat.pow_zero, Nat.mul_one] at R2
          have hs : s = 32 ∨ s = 64 := by rcases h with ⟨q, _⟩ | ⟨q, _⟩ <;> omega
          rcases hs with rfl | rfl
          · exact near_dn32 hz m0 (by omega) (by omega) (by omega) hb A R2 w
          · exact near_dn64 hz m0 (by omega) (by omega) (by omega) hb A R2 w
end Go.Proofs.Ytfgopmgmmpkbeaa
