/-
  The document's Raised, Word, and of numeralref06 Len, Most: what they answer for every input.
-/
import Derived.Test.YtkjmdjegdehpeaaBsK
import Derived.Test.YtkjmdjegdehpeaaBsBig
namespace Go.Proofs.Ytkjmdjegdehpeaa
open Go.RowKit

theorem fits_pow {b m : Nat} (hb : b ≤ 36) (hm : m ≤ 64) : Fits 1000 (b ^ m) := by
  refine ⟨12, by omega, ?_⟩
  have a : b ^ m ≤ 36 ^ m := Nat.pow_le_pow_left hb m
  have c : 36 ^ m ≤ 36 ^ 64 := Nat.pow_le_pow_right (by omega) hm
  have d : 36 ^ 64 < Big.B ^ 12 := by unfold Big.B; decide
  omega

set_option maxRecDepth 100000 in
set_option maxHeartbeats 4000000 in
theorem raised_any (b n : Nat) (h1 : 2 ≤ b) (h2 : b ≤ 36) (hn : n ≤ 64) (w : World) :
    Calls Try.prog 36 #[.int .u64 (b : Int), .int .i64 (n : Int)] w fun e w' => ∃ v, e = .returned v ∧ Big.NatV w' v (b ^ n) ∧ Below w.heap.size w w' := by
  have S1 := fun W => small_nat 1 (by unfold B; decide) W
  have S2 := fun W => small_nat b (by unfold B; omega) W
  have HB : Hid (2 ≤ b ∧ b ≤ 36 ∧ n ≤ 64) := ⟨h1, h2, hn⟩
  clear h1 h2
  go_enter Try.func36, Try.ntmps36
  go_wp2_with fail
  refine (S1 _).mono ?_
  rintro e w1 ⟨v1, rfl, n1, b1⟩
  have N1 : Hid (Big.NatV w1 v1 1 ∧ Below w.heap.size w w1) := ⟨n1, b1⟩
  clear n1 b1
  go_wp2_with fail
  refine (S2 _).mono ?_
  rintro e w2 ⟨v2, rfl, n2, b2⟩
  have N2 : Hid (Big.NatV w2 v1 1 ∧ Big.NatV w2 v2 b ∧ Below w.heap.size w w2) := ⟨N1.out.1.below b2, n2, N1.out.2.trans (b2.mono N1.out.2.size)⟩
  clear n2 b2 N1 S1 S2
  go_wp2
  go_loopw [1, 5, 6] (fun nv ov pv wr => ∃ (m i j : Nat), nv = .int .i64 (m : Int) ∧ m ≤ 64 ∧ Hid (Big.NatV wr ov (b ^ i) ∧ Big.NatV wr pv (b ^ j) ∧ Below w.heap.size w wr ∧ i + j * m = n ∧ 1 ≤ j)) (fun nv _ _ _ => (intOf nv).toNat)
  case atStart => exact ⟨n, 0, 1, rfl, hn, by rw [Nat.pow_zero, Nat.pow_one]; exact ⟨N2.out.1, N2.out.2.1, N2.out.2.2, by rw [Nat.zero_add, Nat.one_mul], Nat.le_refl _⟩⟩
  case round =>
    clear N2
    obtain ⟨m, i, j, rfl, hm, HI⟩ := hrel
    by_cases m0 : 0 < m
    · obtain ⟨h, hh⟩ : ∃ h, h = m / 2 := ⟨_, rfl⟩
      have jm : j ≤ j * m := Nat.le_mul_of_pos_right j m0
      have e2 : (m : Int) / 2 = (h : Int) := by omega
      have e3 : (m : Int).tdiv 2 = (h : Int) := by rw [Int.tdiv_eq_ediv_of_nonneg (by omega)]; exact e2
      have hb64 : h ≤ 64 := by omega
      have hlt : h < m := by omega
      have FX : Hid (Fits 1000 (b ^ i) ∧ Fits 1000 (b ^ j)) := ⟨fits_pow HB.out.2.1 (by have := HI.out.2.2.2.1; have := HB.out; omega), fits_pow HB.out.2.1 (by have := HI.out.2.2.2.1; have := HB.out; omega)⟩
      by_cases odd : m % 2 = 1
      · have e1 : (m : Int) % 2 = 1 := by omega
        have e4 : (m : Int).tmod 2 = 1 := by rw [Int.tmod_eq_emod_of_nonneg (by omega)]; exact e1
        have HS : Hid ((i + j) + 2 * (j * h) = n) := by
          have a := HI.out.2.2.2.1
          have c : m = 2 * h + 1 := by omega
          rw [c, Nat.mul_add, Nat.mul_one, Nat.mul_left_comm] at a
          show _ = _
          omega
        have T1 := times_nat HI.out.1 HI.out.2.1 FX.out.1 FX.out.2
        rw [← Nat.pow_add] at T1
        by_cases h0 : 0 < h
        · clear odd hh jm
          go_wp2_with fail
          refine T1.mono ?_
          rintro e w3 ⟨v3, rfl, n3, b3⟩
          have N3 : Hid (Big.NatV w3 v3 (b ^ (i + j)) ∧ Big.NatV w3 u6 (b ^ j) ∧ Below w.heap.size w w3) := ⟨n3, HI.out.2.1.below b3, HI.out.2.2.1.trans (b3.mono HI.out.2.2.1.size)⟩
          clear n3 b3 T1
          have T2 := times_nat N3.out.2.1 N3.out.2.1 FX.out.2 FX.out.2
          rw [← Nat.pow_add] at T2
          go_wp2_with fail
          refine T2.mono ?_
          rintro e w4 ⟨v4, rfl, n4, b4⟩
          have N4 : Hid (Big.NatV w4 v3 (b ^ (i + j)) ∧ Big.NatV w4 v4 (b ^ (j + j)) ∧ Below w.heap.size w w4) := ⟨N3.out.1.below b4, n4, N3.out.2.2.trans (b4.mono N3.out.2.2.size)⟩
          clear n4 b4 T2
          go_wp2
          go_roundw
          case rel => exact ⟨h, i + j, j + j, rfl, hb64, N4.out.1, N4.out.2.1, N4.out.2.2, by have := HS.out; rw [Nat.add_mul]; omega, by have := HI.out.2.2.2.2; omega⟩
          case measure => simp [intOf]; omega
        · have h00 : h = 0 := by omega
          subst h00
          clear odd hh jm
          go_wp2_with fail
          refine T1.mono ?_
          rintro e w3 ⟨v3, rfl, n3, b3⟩
          have N3 : Hid (Big.NatV w3 v3 (b ^ (i + j)) ∧ Big.NatV w3 u6 (b ^ j) ∧ Below w.heap.size w w3) := ⟨n3, HI.out.2.1.below b3, HI.out.2.2.1.trans (b3.mono HI.out.2.2.1.size)⟩
          clear n3 b3 T1
          go_wp2
          go_roundw
          case rel => exact ⟨0, i + j, j, rfl, by omega, N3.out.1, N3.out.2.1, N3.out.2.2, by have := HS.out; rw [Nat.mul_zero] at this ⊢; omega, HI.out.2.2.2.2⟩
          case measure => simp [intOf]; omega
      · have e1 : (m : Int) % 2 = 0 := by omega
        have e4 : (m : Int).tmod 2 = 0 := by rw [Int.tmod_eq_emod_of_nonneg (by omega)]; exact e1
        have h0 : 0 < h := by omega
        have HS : Hid (i + 2 * (j * h) = n) := by
          have a := HI.out.2.2.2.1
          have c : m = 2 * h := by omega
          rw [c, Nat.mul_left_comm] at a
          exact a
        have T2 := times_nat HI.out.2.1 HI.out.2.1 FX.out.2 FX.out.2
        rw [← Nat.pow_add] at T2
        clear odd hh jm
        go_wp2_with fail
        refine T2.mono ?_
        rintro e w4 ⟨v4, rfl, n4, b4⟩
        have N4 : Hid (Big.NatV w4 u5 (b ^ i) ∧ Big.NatV w4 v4 (b ^ (j + j)) ∧ Below w.heap.size w w4) := ⟨HI.out.1.below b4, n4, HI.out.2.2.1.trans (b4.mono HI.out.2.2.1.size)⟩
        clear n4 b4 T2
        go_wp2
        go_roundw
        case rel => exact ⟨h, i, j + j, rfl, hb64, N4.out.1, N4.out.2.1, N4.out.2.2, by have := HS.out; rw [Nat.add_mul]; omega, by have := HI.out.2.2.2.2; omega⟩
        case measure => simp [intOf]; omega
    · obtain rfl : m = 0 := by omega
      have hin : i = n := by have := HI.out.2.2.2.1; rw [Nat.mul_zero] at this; omega
      subst hin
      go_wp2
      go_ret
      exact ⟨_, rfl, HI.out.1, HI.out.2.2.1⟩

set_option maxRecDepth 100000 in
set_option maxHeartbeats 1000000 in
theorem word_nat {w : World} {va : Value} {X : Nat} (ha : Big.NatV w va X) (hX : X < 18446744073709551616) :
    Calls Try.prog 37 #[va] w fun e w' => e = .returned (.int .u64 (X : Int)) ∧ w' = w := by
  obtain ⟨ao, n, c, b, o, f, rfl, S, t, rfl⟩ := ha
  have hn : n ≤ 2 := big_len t ⟨2, Nat.le_refl _, by unfold Big.B; omega⟩
  have HS : Hid (Big.Sl w ao n c b o f) := S
  obtain ⟨X, hX'⟩ : ∃ X, X = Big.V f n := ⟨_, rfl⟩
  rw [← hX'] at hX ⊢
  have HX : Hid (X = Big.V f n) := hX'
  clear hX' S t
  go_enter Try.func37, Try.ntmps37
  go_wp2
  go_loop [3, 4] (fun a i => ∃ k y : Nat, i = .int .i64 (k : Int) ∧ a = .int .u64 (y : Int) ∧ k ≤ n ∧ Hid (y = Big.V f k)) (fun _ i => n - (intOf i).toNat)
  case atStart => exact ⟨0, 0, rfl, rfl, Nat.zero_le _, rfl⟩
  case round =>
    obtain ⟨k, y, rfl, rfl, hk, HY⟩ := hrel
    by_cases c1 : k < n
    · have hc := HS.out.cell k c1
      obtain rfl := HS.out.addr (by omega)
      rcases (by omega : k = 0 ∨ k = 1) with rfl | rfl
      · have y0 : y = 0 := HY.out
        subst y0
        rw [Nat.add_zero] at hc
        have f0 := HS.out.ws 0
        unfold Big.B at f0
        have HV : Hid (f 0 = Big.V f 1) := by show _ = _; rw [Big.V_succ, Big.V_zero, Nat.pow_zero]; omega
        generalize f 0 = z at *
        have zo : bits .or .u64 0 (z : Int) = (z : Int) := by
          have := bits_or_u64_nat 0 z (by omega) (by omega)
          rw [Nat.zero_or] at this
          exact this
        have zw : IntKind.u64.wrap (z : Int) = (z : Int) := by rw [IntKind.wrap_u64]; omega
        clear HY
        go_wp2
        go_round
        case rel => exact ⟨1, z, rfl, by first | rfl | rw [zo], by omega, HV⟩
        case measure => simp [intOf]; omega
      · have y1 : y = f 0 := by rw [HY.out, Big.V_succ, Big.V_zero, Nat.pow_zero]; omega
        have f0 := HS.out.ws 0
        have f1 := HS.out.ws 1
        have po := pair_or f0 f1
        have HV : Hid (f 0 + f 1 * Big.B = Big.V f 2) := by show _ = _; rw [Big.V_succ, Big.V_succ, Big.V_zero, Nat.pow_zero, Nat.pow_one]; omega
        subst y1
        unfold Big.B at f0 f1
        generalize hs : f 0 + f 1 * Big.B = s at *
        clear hs
        generalize f 0 = z0 at *
        generalize f 1 = z1 at *
        have zw : IntKind.u64.wrap ((z1 : Int) * 4294967296) = (z1 : Int) * 4294967296 := by rw [IntKind.wrap_u64]; omega
        clear HY
        go_wp2
        go_round
        case rel => exact ⟨2, s, rfl, by first | rfl | rw [po], by omega, HV⟩
        case measure => simp [intOf]; omega
    · obtain rfl : k = n := by omega
      have yx : y = X := by rw [HY.out, HX.out]
      subst yx
      have c2 : ¬ (k : Int) < (k : Int) := by omega
      go_wp2
      go_ret
      exact ⟨rfl, rfl⟩
theorem nat_zero {w : World} {va : Value} (ha : Big.NatV w va 0) : ∃ ao c, va = .slice ao 0 c := by
  obtain ⟨ao, n, c, b, o, f, rfl, S, t, h⟩ := ha
  have : n = 0 := by
    rcases Nat.eq_zero_or_pos n with q | q
    · exact q
    · have := Big.Top_ge t q
      have := Big.Bp_pos (n - 1)
      omega
  subst this
  exact ⟨ao, c, rfl⟩
theorem tell_zero {w : World} {va : Value} (ha : Big.NatV w va 0) (b : Int) :
    Calls Try.prog 33 #[va, .int .i64 b] w fun e w' => e = .returned (.string ⟨#[48]⟩) ∧ w' = w := by
  obtain ⟨ao, c, rfl⟩ := nat_zero ha
  go_enter Try.func33, Try.ntmps33
  go_wp2
  go_ret
  exact ⟨rfl, rfl⟩
theorem tell_len {w : World} {va : Value} {x : Nat} (ha : Big.NatV w va x) (hx : x < 18446744073709551616) (b : Nat) (h1 : 2 ≤ b) (h2 : b ≤ 36) :
    Calls Try.prog 33 #[va, .int .i64 (b : Int)] w fun e w' => ∃ T : ByteArray, e = .returned (.string T) ∧ DLen b x T.size ∧ Below w.heap.size w w' := by
  by_cases x0 : x = 0
  · subst x0
    refine (tell_zero ha (b : Int)).mono fun e w' z => ⟨_, z.1, ?_, by rw [z.2]; exact Below.refl _ _⟩
    exact ⟨Nat.le_refl _, fun _ => rfl, fun z => absurd rfl z, Nat.pow_pos (by omega)⟩
  · have hB : x < B ^ 128 := by
      have a : B ^ 1 ≤ B ^ 128 := Nat.pow_le_pow_right (by unfold B; decide) (by omega)
      rw [Nat.pow_one] at a
      unfold B at a ⊢
      omega
    refine (tell_any ha x0 hB b h1 h2).mono ?_
    rintro e w' ⟨K, rfl, k1, k2, k3, hb⟩
    exact ⟨_, rfl, by rw [rowText_size]; exact ⟨k1, fun z => absurd z x0, fun _ => k2, k3⟩, hb⟩

set_option maxRecDepth 100000 in
theorem rlen_yes (x b : Nat) (hx : x < 18446744073709551616) (h1 : 2 ≤ b) (h2 : b ≤ 36) (w : World) :
    Calls Try.prog 23 #[.int .u64 (x : Int), .int .i64 (b : Int)] w fun e w' => ∃ K : Nat, e = .returned (.tuple #[.int .i64 (K : Int), .int .i64 0]) ∧ DLen b x K ∧ Below w.heap.size w w' := by
  have V := fun W => rvalid_yes (b : Int) (by omega) (by omega) W
  have S1 := fun W => small_nat x (by unfold B; exact hx) W
  have T := fun (W : World) (va : Value) (h : Big.NatV W va x) => tell_len h hx b h1 h2
  clear hx h1 h2
  go_enter Try.func23, Try.ntmps23
  go_wp2_with fail
  refine (V _).mono ?_
  rintro e w ⟨rfl, rfl⟩
  go_wp2_with fail
  refine (S1 _).mono ?_
  rintro e w1 ⟨v1, rfl, n1, b1⟩
  have N1 : Hid (Big.NatV w1 v1 x ∧ Below w.heap.size w w1) := ⟨n1, b1⟩
  clear n1 b1
  go_wp2_with fail
  refine (T _ _ N1.out.1).mono ?_
  rintro e w2 ⟨t, rfl, n2, b2⟩
  have N2 : Hid (DLen b x t.size ∧ Below w.heap.size w w2) := ⟨n2, N1.out.2.trans (b2.mono N1.out.2.size)⟩
  clear n2 b2
  go_wp2
  go_ret2
  exact ⟨_, rfl, N2.out.1, N2.out.2⟩
theorem rlen_no (x b : Int) (h : b < 2 ∨ 36 < b) (w : World) :
    Calls Try.prog 23 #[.int .u64 x, .int .i64 b] w fun e w' => e = .returned (.tuple #[.int .i64 0, .int .i64 7]) ∧ w' = w := by
  have V := fun W => rvalid_no b h W
  go_enter Try.func23, Try.ntmps23
  go_wp2_with fail
  refine (V _).mono ?_
  rintro e w ⟨rfl, rfl⟩
  go_wp2
  go_ret2
  exact ⟨rfl, rfl⟩
theorem bl64 (X : Nat) : bl X ≤ 64 ↔ X < 18446744073709551616 := by
  constructor
  · intro h
    have a := bl_lt X
    have c := Nat.pow_le_pow_right (show 0 < 2 by omega) h
    rw [pow64] at c
    omega
  · intro h
    exact bl_mono_le (by rw [pow64]; exact h)

set_option maxRecDepth 100000 in
set_option maxHeartbeats 2000000 in
theorem rmost_yes (b : Nat) (h1 : 2 ≤ b) (h2 : b ≤ 36) (w : World) :
    Calls Try.prog 25 #[.int .i64 (b : Int)] w fun e w' => ∃ K P : Nat, e = .returned (.tuple #[.int .i64 (K : Int), .int .u64 (P : Int), .int .i64 0]) ∧ (P = b ^ K ∧ PMost b K) ∧ Below w.heap.size w w' := by
  have V := fun W => rvalid_yes (b : Int) (by omega) (by omega) W
  have R := fun n (h : n ≤ 64) W => raised_any b n h1 h2 h W
  have u1 : IntKind.u64.wrap (b : Int) = (b : Int) := by rw [IntKind.wrap_u64]; omega
  have HB : Hid (2 ≤ b ∧ b ≤ 36) := ⟨h1, h2⟩
  go_enter Try.func25, Try.ntmps25
  go_wp2_with fail
  refine (V _).mono ?_
  rintro e w ⟨rfl, rfl⟩
  clear V
  go_wp2
  go_loopw [5] (fun i wr => ∃ k : Nat, i = .int .i64 (k : Int) ∧ k ≤ 63 ∧ Hid (b ^ k < 18446744073709551616 ∧ Below w.heap.size w wr)) (fun i _ => 64 - (intOf i).toNat)
  case atStart => exact ⟨0, rfl, by omega, ⟨by rw [Nat.pow_zero]; omega, Below.refl _ _⟩⟩
  case round =>
    obtain ⟨k, rfl, hk, HK⟩ := hrel
    have R1 := fun W => R (k + 1) (by omega) W
    simp only [Int.natCast_add, Int.natCast_one] at R1
    have R2 := fun W => R k (by omega) W
    clear R
    go_wp2_with fail
    refine (R1 _).mono ?_
    rintro e w1 ⟨v1, rfl, n1, b1⟩
    have L1 := length_nat n1 (fits_pow HB.out.2 (by omega))
    have N1 : Hid (Big.NatV w1 v1 (b ^ (k + 1)) ∧ Below w.heap.size w w1) := ⟨n1, HK.out.2.trans (b1.mono HK.out.2.size)⟩
    clear n1 b1
    have q := bl64 (b ^ (k + 1))
    generalize hbl : bl (b ^ (k + 1)) = l at *
    by_cases c : l ≤ 64
    · have HP : Hid (b ^ (k + 1) < 18446744073709551616) := q.1 c
      have hk2 : k + 1 < 64 := exp_lt HB.out.1 HP.out
      have c' : (l : Int) ≤ 64 := by omega
      clear q hbl
      go_wp2_with fail
      refine L1.mono ?_
      rintro e w1 ⟨rfl, rfl⟩
      go_wp2
      go_roundw
      case rel => exact ⟨k + 1, by go_num, by omega, HP.out, N1.out.2⟩
      case measure => simp [intOf]; omega
    · have HP : Hid (18446744073709551616 ≤ b ^ (k + 1)) := by
        have : ¬ b ^ (k + 1) < 18446744073709551616 := fun z => c (q.2 z)
        show _ ≤ _
        omega
      have c' : ¬ (l : Int) ≤ 64 := by omega
      have HM : Hid (PMost b k) := ⟨by
        rcases Nat.eq_zero_or_pos k with z | z
        · have := HP.out
          rw [z, Nat.zero_add, Nat.pow_one] at this
          have := HB.out
          omega
        · exact z, HK.out.1, HP.out⟩
      clear q hbl
      go_wp2_with fail
      refine L1.mono ?_
      rintro e w1 ⟨rfl, rfl⟩
      go_wp2_with fail
      refine (R2 _).mono ?_
      rintro e w2 ⟨v2, rfl, n2, b2⟩
      obtain ⟨P, hP⟩ : ∃ P, P = b ^ k := ⟨_, rfl⟩
      rw [← hP] at n2
      have W1 := word_nat n2 (by rw [hP]; exact HK.out.1)
      have HPP : Hid (P = b ^ k) := hP
      have N2 : Hid (Below w.heap.size w w2) := N1.out.2.trans (b2.mono N1.out.2.size)
      clear n2 b2 hP
      go_wp2_with fail
      refine W1.mono ?_
      rintro e w2 ⟨rfl, rfl⟩
      go_wp2
      refine bodyPost_ret (v := .tuple #[.int .i64 (k : Int), .int .u64 (P : Int), .int .i64 0]) (by simp [results, Try.results25, go_sem]) rfl ⟨k, P, rfl, ⟨HPP.out, HM.out⟩, N2.out⟩
theorem rmost_no (b : Int) (h : b < 2 ∨ 36 < b) (w : World) :
    Calls Try.prog 25 #[.int .i64 b] w fun e w' => e = .returned (.tuple #[.int .i64 0, .int .u64 0, .int .i64 7]) ∧ w' = w := by
  have V := fun W => rvalid_no b h W
  go_enter Try.func25, Try.ntmps25
  go_wp2_with fail
  refine (V _).mono ?_
  rintro e w ⟨rfl, rfl⟩
  go_wp2
  refine bodyPost_ret (v := .tuple #[.int .i64 0, .int .u64 0, .int .i64 7]) (by simp [results, Try.results25, go_sem]) rfl ⟨rfl, rfl⟩
end Go.Proofs.Ytkjmdjegdehpeaa
