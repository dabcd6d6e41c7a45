/-
  What the document's Exactly, finite, Value and Half of layer 12 answer.
-/
import Derived.Test.YtealnajogkeckaaDoorRnI
import Derived.Test.YtealnajogkeckaaDoorRnH
namespace Go.Proofs.YtealnajogkeckaaDoor
open Go.RowKit

set_option maxRecDepth 100000 in
set_option maxHeartbeats 1000000 in
theorem rexact_ok {m : Nat} {e : Int} (hm : m < 18446744073709551616) (h0 : -1100 ≤ e) (h1 : e ≤ 1000) (w : World) : Calls Tryd.prog 42 #[.int .u64 (m : Int), .int .i64 e] w fun x w' => ∃ (v1 v2 : Value) (N D : Nat), x = .returned (.tuple #[v1, v2]) ∧ Big.NatV w' v1 N ∧ Big.NatV w' v2 D ∧ Frc N D m e ∧ Fits 100 N ∧ Fits 100 D ∧ Below w.heap.size w w' := by
  have S1 : ∀ W, Calls Tryd.prog 38 #[.int .u64 1] W fun e w' => ∃ v, e = .returned v ∧ Big.NatV w' v 1 ∧ Below W.heap.size W w' := fun W => small_nat 1 (by unfold B; decide) W
  have HM : Hid (m < 18446744073709551616 ∧ -1100 ≤ e ∧ e ≤ 1000) := ⟨hm, h0, h1⟩
  clear hm h0 h1
  go_enter Tryd.func42, Tryd.ntmps42
  go_wp2
  go_loopw [0, 1] (fun mv ev' wr => ∃ (k : Nat) (x : Int), mv = .int .u64 (k : Int) ∧ ev' = .int .i64 x ∧ wr = w ∧ k < 18446744073709551616 ∧ -1100 ≤ x ∧ x ≤ 1000 ∧ Hid (Eqv m e k x ∧ (m = 0 ↔ k = 0))) (fun mv _ _ => (intOf mv).toNat)
  case atStart => exact ⟨m, e, rfl, rfl, rfl, HM.out.1, HM.out.2.1, HM.out.2.2, Eqv.rfl' m e, Iff.rfl⟩
  case round =>
    obtain ⟨k, x, rfl, rfl, rfl, hk, x0, x1, HI⟩ := hrel
    by_cases go : k ≠ 0 ∧ k % 2 = 0 ∧ x < 0
    · obtain ⟨k0, k2, xn⟩ := go
      have e1 : (0 : Int) < (k : Int) := by omega
      have e2 : (k : Int) % 2 = 0 := by omega
      have e3 : (k : Int) / 2 = ((k / 2 : Nat) : Int) := by omega
      have HN : Hid (Eqv m e (k / 2) (x + 1) ∧ (m = 0 ↔ k / 2 = 0)) := ⟨HI.out.1.trans (Eqv.half x k2), by have := HI.out.2; omega⟩
      have k3 : k / 2 < k := by omega
      generalize k / 2 = k' at *
      clear k2 k0
      go_wp2
      go_roundw
      case rel => exact ⟨k', x + 1, rfl, rfl, trivial, by omega, by omega, by omega, HN.out⟩
      case measure => simp [intOf]; omega
    · by_cases k0 : k = 0
      · subst k0
        have hm0 : m = 0 := HI.out.2.2 rfl
        have HF : Hid (Frc 0 1 m e) := by
          refine ⟨⟨min 0 e, by omega, by omega, ?_⟩, 0, rfl, .inr rfl⟩
          unfold ev
          rw [hm0]
          simp
        clear hm0
        go_wp2_with fail
        refine (S1 _).mono ?_
        rintro y w1 ⟨v, rfl, n1, b1⟩
        have N1 : Hid (Big.NatV w1 v 1 ∧ Below wr.heap.size wr w1) := ⟨n1, b1⟩
        clear n1 b1
        go_wp2
        go_ret2
        exact ⟨_, v, 0, 1, rfl, Big.natv_nil w1, N1.out.1, HF.out, (two_fits (s := 0) (k := 100) (by omega)).le (by omega), two_fits (s := 0) (k := 100) (by omega), N1.out.2⟩
      · have S2 := fun W => small_nat k hk W
        have fk : Fits 2 k := Fits.word (n := 1) (by rw [Nat.pow_one]; exact hk)
        have e1 : (0 : Int) < (k : Int) := by omega
        have e0 : ((k : Int) == 0) = false := by simp; omega
        by_cases xp0 : 0 ≤ x
        · obtain ⟨j, hj⟩ : ∃ j : Nat, (j : Int) = x := ⟨x.toNat, by omega⟩
          have HF : Hid (Frc (k * 2 ^ j) 1 m e ∧ Fits 100 (k * 2 ^ j)) := by
            refine ⟨⟨vE_of_eqv ⟨0, Int.le_refl _, xp0, ?_⟩ HI.out.1.symm, 0, rfl, .inr rfl⟩, (fits_shl fk).up (by omega)⟩
            unfold ev
            rw [← hj]
            simp
          have T : ∀ W v, Big.NatV W v k → Calls Tryd.prog 73 #[v, .int .i64 x] W fun e w' => ∃ v, e = .returned v ∧ Big.NatV w' v (k * 2 ^ j) ∧ Below W.heap.size W w' := fun W v h => by
            have q := up_any h (fk.up (by omega)) j (by omega)
            rw [hj] at q
            exact q
          clear hj fk
          by_cases par : k % 2 = 0
          · have e2 : (k : Int) % 2 = 0 := by omega
            clear par
            go_wp2_with fail
            refine (S2 _).mono ?_
            rintro y w1 ⟨v1, rfl, n1, b1⟩
            have N1 : Hid (Big.NatV w1 v1 k ∧ Below wr.heap.size wr w1) := ⟨n1, b1⟩
            have T := T w1 v1 n1
            clear n1 b1
            go_wp2_with fail
            refine T.mono ?_
            rintro y w2 ⟨v2, rfl, n2, b2⟩
            have N2 : Hid (Big.NatV w2 v2 (k * 2 ^ j) ∧ Below wr.heap.size wr w2) := ⟨n2, N1.out.2.trans (b2.mono N1.out.2.size)⟩
            clear n2 b2
            go_wp2_with fail
            refine (S1 _).mono ?_
            rintro y w3 ⟨v3, rfl, n3, b3⟩
            have N3 : Hid (Big.NatV w3 v2 (k * 2 ^ j) ∧ Big.NatV w3 v3 1 ∧ Below wr.heap.size wr w3) := ⟨N2.out.1.below b3, n3, N2.out.2.trans (b3.mono N2.out.2.size)⟩
            clear n3 b3
            go_wp2
            go_ret2
            exact ⟨v2, v3, k * 2 ^ j, 1, rfl, N3.out.1, N3.out.2.1, HF.out.1, HF.out.2, two_fits (s := 0) (k := 100) (by omega), N3.out.2.2⟩
          · have e2 : (k : Int) % 2 = 1 := by omega
            clear par
            go_wp2_with fail
            refine (S2 _).mono ?_
            rintro y w1 ⟨v1, rfl, n1, b1⟩
            have N1 : Hid (Big.NatV w1 v1 k ∧ Below wr.heap.size wr w1) := ⟨n1, b1⟩
            have T := T w1 v1 n1
            clear n1 b1
            go_wp2_with fail
            refine T.mono ?_
            rintro y w2 ⟨v2, rfl, n2, b2⟩
            have N2 : Hid (Big.NatV w2 v2 (k * 2 ^ j) ∧ Below wr.heap.size wr w2) := ⟨n2, N1.out.2.trans (b2.mono N1.out.2.size)⟩
            clear n2 b2
            go_wp2_with fail
            refine (S1 _).mono ?_
            rintro y w3 ⟨v3, rfl, n3, b3⟩
            have N3 : Hid (Big.NatV w3 v2 (k * 2 ^ j) ∧ Big.NatV w3 v3 1 ∧ Below wr.heap.size wr w3) := ⟨N2.out.1.below b3, n3, N2.out.2.trans (b3.mono N2.out.2.size)⟩
            clear n3 b3
            go_wp2
            go_ret2
            exact ⟨v2, v3, k * 2 ^ j, 1, rfl, N3.out.1, N3.out.2.1, HF.out.1, HF.out.2, two_fits (s := 0) (k := 100) (by omega), N3.out.2.2⟩
        · obtain ⟨j, hj⟩ : ∃ j : Nat, (j : Int) = -x := ⟨(-x).toNat, by omega⟩
          have par : k % 2 = 1 := by omega
          have HF : Hid (Frc k (1 * 2 ^ j) m e ∧ Fits 100 k ∧ Fits 100 (1 * 2 ^ j)) := by
            refine ⟨⟨vE_of_eqv ⟨x, by omega, Int.le_refl _, ?_⟩ HI.out.1.symm, j, Nat.one_mul _, .inl par⟩, fk.up (by omega), by rw [Nat.one_mul]; exact two_fits (by omega)⟩
            unfold ev
            rw [show (0 - x).toNat = j from by omega, show (x - x).toNat = 0 from by omega, Nat.pow_zero, Nat.mul_one, Nat.one_mul, Nat.mul_comm]
          have T : ∀ W v, Big.NatV W v 1 → Calls Tryd.prog 73 #[v, .int .i64 (-x)] W fun e w' => ∃ v, e = .returned v ∧ Big.NatV w' v (1 * 2 ^ j) ∧ Below W.heap.size W w' := fun W v h => by
            have q := up_any h (two_fits (s := 0) (k := 1000) (by omega)) j (by omega)
            rw [hj] at q
            exact q
          have e2 : (k : Int) % 2 = 1 := by omega
          have xn : x < 0 := by omega
          clear hj fk par xp0
          go_wp2_with fail
          refine (S2 _).mono ?_
          rintro y w1 ⟨v1, rfl, n1, b1⟩
          have N1 : Hid (Big.NatV w1 v1 k ∧ Below wr.heap.size wr w1) := ⟨n1, b1⟩
          clear n1 b1
          go_wp2_with fail
          refine (S1 _).mono ?_
          rintro y w2 ⟨v2, rfl, n2, b2⟩
          have N2 : Hid (Big.NatV w2 v1 k ∧ Below wr.heap.size wr w2) := ⟨N1.out.1.below b2, N1.out.2.trans (b2.mono N1.out.2.size)⟩
          have T := T w2 v2 n2
          clear n2 b2
          go_wp2_with fail
          refine T.mono ?_
          rintro y w3 ⟨v3, rfl, n3, b3⟩
          have N3 : Hid (Big.NatV w3 v1 k ∧ Big.NatV w3 v3 (1 * 2 ^ j) ∧ Below wr.heap.size wr w3) := ⟨N2.out.1.below b3, n3, N2.out.2.trans (b3.mono N2.out.2.size)⟩
          clear n3 b3
          go_wp2
          go_ret2
          exact ⟨v1, v3, k, 1 * 2 ^ j, rfl, N3.out.1, N3.out.2.1, HF.out.1, HF.out.2.1, HF.out.2.2, N3.out.2.2⟩
end Go.Proofs.YtealnajogkeckaaDoor
