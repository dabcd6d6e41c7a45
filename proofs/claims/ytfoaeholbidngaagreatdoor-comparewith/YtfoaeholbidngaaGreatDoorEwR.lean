/-
  The document's Raised: every power up to 2400 of a number up to 16.
-/
import Derived.Test.YtfoaeholbidngaaGreatDoorEwM
namespace Go.Proofs.YtfoaeholbidngaaGreatDoor
open Go.RowKit

theorem fits_far {b m : Nat} (hb : b ≤ 16) (hm : m ≤ 2400) : Fits 1000 (b ^ m) := by
  refine (two_fits (s := 4 * m) (by omega)).le ?_
  rw [Nat.pow_mul]
  exact Nat.pow_le_pow_left hb m

set_option maxRecDepth 100000 in
set_option maxHeartbeats 4000000 in
theorem raised_far (b n : Nat) (h1 : 2 ≤ b) (h2 : b ≤ 16) (hn : n ≤ 2400) (w : World) :
    Calls Tryz.prog 86 #[.int .u64 (b : Int), .int .i64 (n : Int)] w fun e w' => ∃ v, e = .returned v ∧ Big.NatV w' v (b ^ n) ∧ Below w.heap.size w w' := by
  have S1 := fun W => small_nat 1 (by unfold B; decide) W
  have S2 := fun W => small_nat b (by unfold B; omega) W
  have HB : Hid (2 ≤ b ∧ b ≤ 16 ∧ n ≤ 2400) := ⟨h1, h2, hn⟩
  clear h1 h2
  go_enter Tryz.func86, Tryz.ntmps86
  go_wp2_with fail
  refine (S1 _).mono ?_
  rintro e w1 ⟨v1, rfl, n1, b1⟩
  have N1 : Hid (Big.NatV w1 v1 1 ∧ Below w.heap.size w w1) := ⟨n1, b1⟩
  clear n1 b1
  go_wp2_with fail
  refine (S2 _).mono ?_
  rintro e w2 ⟨v2, rfl, n2, b2⟩
  have N2 : Hid (Big.NatV w2 v1 1 ∧ Big.NatV w2 v2 b ∧ Below w.heap.size w w2) := ⟨N1.out.1.below b2, n2, N1.out.2.trans (b2.mono N1.out.2.size)⟩
  clear n2 b2 N1 S1 S2
  go_wp2
  go_loopw [1, 5, 6] (fun nv ov pv wr => ∃ (m i j : Nat), nv = .int .i64 (m : Int) ∧ m ≤ 2400 ∧ Hid (Big.NatV wr ov (b ^ i) ∧ Big.NatV wr pv (b ^ j) ∧ Below w.heap.size w wr ∧ i + j * m = n ∧ 1 ≤ j)) (fun nv _ _ _ => (intOf nv).toNat)
  case atStart => exact ⟨n, 0, 1, rfl, hn, by rw [Nat.pow_zero, Nat.pow_one]; exact ⟨N2.out.1, N2.out.2.1, N2.out.2.2, by rw [Nat.zero_add, Nat.one_mul], Nat.le_refl _⟩⟩
  case round =>
    clear N2
    obtain ⟨m, i, j, rfl, hm, HI⟩ := hrel
    by_cases m0 : 0 < m
    · obtain ⟨h, hh⟩ : ∃ h, h = m / 2 := ⟨_, rfl⟩
      have jm : j ≤ j * m := Nat.le_mul_of_pos_right j m0
      have e2 : (m : Int) / 2 = (h : Int) := by omega
      have e3 : (m : Int).tdiv 2 = (h : Int) := by rw [Int.tdiv_eq_ediv_of_nonneg (by omega)]; exact e2
      have hb64 : h ≤ 2400 := by omega
      have hlt : h < m := by omega
      have FX : Hid (Fits 1000 (b ^ i) ∧ Fits 1000 (b ^ j)) := ⟨fits_far HB.out.2.1 (by have := HI.out.2.2.2.1; have := HB.out; omega), fits_far HB.out.2.1 (by have := HI.out.2.2.2.1; have := HB.out; omega)⟩
      by_cases odd : m % 2 = 1
      · have e1 : (m : Int) % 2 = 1 := by omega
        have e4 : (m : Int).tmod 2 = 1 := by rw [Int.tmod_eq_emod_of_nonneg (by omega)]; exact e1
        have HS : Hid ((i + j) + 2 * (j * h) = n) := by
          have a := HI.out.2.2.2.1
          have c : m = 2 * h + 1 := by omega
          rw [c, Nat.mul_add, Nat.mul_one, Nat.mul_left_comm] at a
          show _ = _
          omega
        have T1 := times_nat HI.out.1 HI.out.2.1 FX.out.1 FX.out.2
        rw [← Nat.pow_add] at T1
        by_cases h0 : 0 < h
        · clear odd hh jm
          go_wp2_with fail
          refine T1.mono ?_
          rintro e w3 ⟨v3, rfl, n3, b3⟩
          have N3 : Hid (Big.NatV w3 v3 (b ^ (i + j)) ∧ Big.NatV w3 u6 (b ^ j) ∧ Below w.heap.size w w3) := ⟨n3, HI.out.2.1.below b3, HI.out.2.2.1.trans (b3.mono HI.out.2.2.1.size)⟩
          clear n3 b3 T1
          have T2 := times_nat N3.out.2.1 N3.out.2.1 FX.out.2 FX.out.2
          rw [← Nat.pow_add] at T2
          go_wp2_with fail
          refine T2.mono ?_
          rintro e w4 ⟨v4, rfl, n4, b4⟩
          have N4 : Hid (Big.NatV w4 v3 (b ^ (i + j)) ∧ Big.NatV w4 v4 (b ^ (j + j)) ∧ Below w.heap.size w w4) := ⟨N3.out.1.below b4, n4, N3.out.2.2.trans (b4.mono N3.out.2.2.size)⟩
          clear n4 b4 T2
          go_wp2
          go_roundw
          case rel => exact ⟨h, i + j, j + j, rfl, hb64, N4.out.1, N4.out.2.1, N4.out.2.2, by have := HS.out; rw [Nat.add_mul]; omega, by have := HI.out.2.2.2.2; omega⟩
          case measure => simp [intOf]; omega
        · have h00 : h = 0 := by omega
          subst h00
          clear odd hh jm
          go_wp2_with fail
          refine T1.mono ?_
          rintro e w3 ⟨v3, rfl, n3, b3⟩
          have N3 : Hid (Big.NatV w3 v3 (b ^ (i + j)) ∧ Big.NatV w3 u6 (b ^ j) ∧ Below w.heap.size w w3) := ⟨n3, HI.out.2.1.below b3, HI.out.2.2.1.trans (b3.mono HI.out.2.2.1.size)⟩
          clear n3 b3 T1
          go_wp2
          go_roundw
          case rel => exact ⟨0, i + j, j, rfl, by omega, N3.out.1, N3.out.2.1, N3.out.2.2, by have := HS.out; rw [Nat.mul_zero] at this ⊢; omega, HI.out.2.2.2.2⟩
          case measure => simp [intOf]; omega
      · have e1 : (m : Int) % 2 = 0 := by omega
        have e4 : (m : Int).tmod 2 = 0 := by rw [Int.tmod_eq_emod_of_nonneg (by omega)]; exact e1
        have h0 : 0 < h := by omega
        have HS : Hid (i + 2 * (j * h) = n) := by
          have a := HI.out.2.2.2.1
          have c : m = 2 * h := by omega
          rw [c, Nat.mul_left_comm] at a
          exact a
        have T2 := times_nat HI.out.2.1 HI.out.2.1 FX.out.2 FX.out.2
        rw [← Nat.pow_add] at T2
        clear odd hh jm
        go_wp2_with fail
        refine T2.mono ?_
        rintro e w4 ⟨v4, rfl, n4, b4⟩
        have N4 : Hid (Big.NatV w4 u5 (b ^ i) ∧ Big.NatV w4 v4 (b ^ (j + j)) ∧ Below w.heap.size w w4) := ⟨HI.out.1.below b4, n4, HI.out.2.2.1.trans (b4.mono HI.out.2.2.1.size)⟩
        clear n4 b4 T2
        go_wp2
        go_roundw
        case rel => exact ⟨h, i, j + j, rfl, hb64, N4.out.1, N4.out.2.1, N4.out.2.2, by have := HS.out; rw [Nat.add_mul]; omega, by have := HI.out.2.2.2.2; omega⟩
        case measure => simp [intOf]; omega
    · obtain rfl : m = 0 := by omega
      have hin : i = n := by have := HI.out.2.2.2.1; rw [Nat.mul_zero] at this; omega
      subst hin
      go_wp2
      go_ret
      exact ⟨_, rfl, HI.out.1, HI.out.2.2.1⟩

end Go.Proofs.YtfoaeholbidngaaGreatDoor
