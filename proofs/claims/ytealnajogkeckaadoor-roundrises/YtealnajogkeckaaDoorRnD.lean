/-
  What nextBit and quotient of round answer.
-/
import Derived.Test.YtealnajogkeckaaDoorRn4
import Derived.Test.YtealnajogkeckaaDoorRnM
namespace Go.Proofs.YtealnajogkeckaaDoor
open Go.RowKit

theorem nat_lt {w : World} {v : Value} {X : Nat} (h : NatV w v X) : X < B ^ 128 := by
  obtain ⟨ao, n, c, b, o, f, rfl, S, t, rfl, hn⟩ := h
  exact Nat.lt_of_lt_of_le (V_lt S.ws n) (Nat.pow_le_pow_right B_pos hn)
theorem bl_ln (X : Nat) : bl X = ln X := rfl
theorem bl_fit {X K : Nat} (h : X < B ^ K) : bl X ≤ 64 * K := by
  rw [twoB_pow] at h
  exact bl_mono_le h
theorem nat_bl {w : World} {v : Value} {X : Nat} (h : NatV w v X) : bl X ≤ 8192 := by
  have a := bl_fit (nat_lt h)
  omega
theorem or_one {q : Nat} (h : 2 * q < 18446744073709551616) : bits .or .u64 ((2 * q : Nat) : Int) 1 = ((2 * q + 1 : Nat) : Int) := by
  have h1 : (BitVec.ofInt 64 ((2 * q : Nat) : Int)).toNat = 2 * q := by rw [BitVec.ofInt_natCast, BitVec.toNat_ofNat]; exact Nat.mod_eq_of_lt (by omega)
  show IntKind.u64.wrap ((BitVec.ofInt 64 ((2 * q : Nat) : Int) ||| BitVec.ofInt 64 (1 : Int)).toNat : Int) = _
  have e := Nat.two_pow_add_eq_or_of_lt (i := 1) (b := 1) (by omega) q
  rw [Nat.pow_one] at e
  rw [BitVec.toNat_or, h1, show (BitVec.ofInt 64 (1 : Int)).toNat = 1 by decide, ← e, IntKind.wrap_u64]
  omega
theorem pow_fit {X s K : Nat} (h : bl X + s ≤ 64 * K) : X * 2 ^ s < B ^ K := by
  rw [twoB_pow]
  refine Nat.lt_of_lt_of_le (Nat.mul_lt_mul_of_pos_right (bl_lt X) (Nat.two_pow_pos s)) ?_
  rw [← Nat.pow_add]
  exact Nat.pow_le_pow_right (by omega) h
theorem nat_slice {w : World} {v : Value} {X : Nat} (h : NatV w v X) : ∃ ao n c, v = .slice ao n c ∧ (n = 0 ↔ X = 0) ∧ n ≤ 128 := by
  obtain ⟨ao, n, c, b, o, f, rfl, S, t, rfl, hn⟩ := h
  refine ⟨ao, n, c, rfl, ⟨fun z => by subst z; rfl, fun z => ?_⟩, hn⟩
  apply Nat.eq_zero_of_not_pos
  intro p
  have a := Top_ge t p
  have := Nat.pow_pos (n := n - 1) B_pos
  omega
theorem bits_nat {w : World} {va : Value} {X : Nat} (h : NatV w va X) : Calls Tryd.prog 61 #[va] w fun e w' => e = .returned (.tuple #[.int .i64 (bl X : Int), .nilIface]) ∧ Below w.heap.size w w' := by
  obtain ⟨ao, n, c, b, o, f, rfl, S, t, rfl, hn⟩ := h
  have T := bitsN_any S
  rw [verr_ok hn t, num2_zero] at T
  exact T
theorem valid_nat {w : World} {va : Value} {X : Nat} (h : NatV w va X) : Calls Tryd.prog 46 #[va] w fun e w' => e = .returned .nilIface ∧ Below w.heap.size w w' := by
  obtain ⟨ao, n, c, b, o, f, rfl, S, t, rfl, hn⟩ := h
  have T := valid_any S
  rw [verr_ok hn t] at T
  exact T
theorem word_natv {w : World} {va : Value} {X : Nat} (h : NatV w va X) (hX : X < 18446744073709551616) : Calls Tryd.prog 63 #[va] w fun e w' => e = .returned (.tuple #[.int .u64 (X : Int), .bool true]) ∧ Below w.heap.size w w' := by
  obtain ⟨ao, n, c, b, o, f, rfl, S, t, rfl, hn⟩ := h
  by_cases n0 : n = 0
  · subst n0
    exact word_none S (verr_ok hn t)
  by_cases n1 : n = 1
  · subst n1
    have T := word_one S (verr_ok hn t)
    rw [show V f 1 = f 0 from by rw [V_succ]; simp [V]]
    exact T
  · exfalso
    have a := Top_ge t (by omega)
    have c := Nat.pow_le_pow_right B_pos (show 1 ≤ n - 1 by omega)
    rw [Nat.pow_one] at c
    unfold B at a c
    omega

set_option maxRecDepth 100000 in
set_option maxHeartbeats 1000000 in
theorem next_low {w : World} {vr vd : Value} {q R Y : Nat} (hr : NatV w vr R) (hd : NatV w vd Y) (hq : q < 9223372036854775808) (h : 2 * R < Y) : Calls Tryd.prog 64 #[.int .u64 (q : Int), vr, vd] w fun e w' => ∃ v, e = .returned (.tuple #[.int .u64 ((2 * q : Nat) : Int), v]) ∧ NatV w' v (2 * R) ∧ Below w.heap.size w w' := by
  have H1 := sub_ok hd hr (by omega)
  have H0 : Hid (NatV w vr R ∧ NatV w vd Y ∧ 2 * R < Y) := ⟨hr, hd, h⟩
  have e1 : (q : Int) * 2 = ((2 * q : Nat) : Int) := by omega
  generalize hQ : 2 * q = Q at *
  have hQ2 : Q < 18446744073709551616 := by omega
  clear hr hd h hQ
  go_enter Tryd.func64, Tryd.ntmps64
  go_wp2_with fail
  refine H1.mono ?_
  rintro e w1 ⟨v1, rfl, n1, b1⟩
  have H2 := sub_below (H0.out.1.below b1) n1 (by have := H0.out.2.2; omega)
  have B1 : Hid (Below w.heap.size w w1) := b1
  clear H1 n1 b1
  go_wp2_with fail
  refine H2.mono ?_
  rintro e w2 ⟨rfl, b2⟩
  have B2 : Hid (Below w.heap.size w w2) := B1.out.trans (b2.mono B1.out.size)
  have H3 := add_ok (H0.out.1.below B2.out) (H0.out.1.below B2.out) (by have := nat_lt H0.out.2.1; have := H0.out.2.2; omega)
  clear H2 b2 B1
  go_wp2_with fail
  refine H3.mono ?_
  rintro e w3 ⟨v3, rfl, n3, b3⟩
  have B3 : Hid (NatV w3 v3 (R + R) ∧ Below w.heap.size w w3) := ⟨n3, B2.out.trans (b3.mono B2.out.size)⟩
  clear H3 n3 b3 B2
  go_wp2
  go_ret2
  exact ⟨v3, rfl, by rw [Nat.two_mul]; exact B3.out.1, B3.out.2⟩
set_option maxRecDepth 100000 in
set_option maxHeartbeats 1000000 in
theorem next_high {w : World} {vr vd : Value} {q R Y : Nat} (hr : NatV w vr R) (hd : NatV w vd Y) (hq : q < 9223372036854775808) (h : Y ≤ 2 * R) (hy : R < Y) : Calls Tryd.prog 64 #[.int .u64 (q : Int), vr, vd] w fun e w' => ∃ v, e = .returned (.tuple #[.int .u64 ((2 * q + 1 : Nat) : Int), v]) ∧ NatV w' v (2 * R - Y) ∧ Below w.heap.size w w' := by
  have H1 := sub_ok hd hr (by omega)
  have H0 : Hid (NatV w vr R ∧ NatV w vd Y ∧ Y ≤ 2 * R ∧ R < Y) := ⟨hr, hd, h, hy⟩
  have e1 : (q : Int) * 2 = ((2 * q : Nat) : Int) := by omega
  have e2 : bits .or .u64 ((2 * q : Nat) : Int) 1 = ((2 * q + 1 : Nat) : Int) := or_one (by omega)
  generalize hQ' : 2 * q + 1 = Q' at *
  generalize hQ : 2 * q = Q at *
  have hQ2 : Q < 18446744073709551616 := by omega
  clear hr hd h hQ hQ' hy
  go_enter Tryd.func64, Tryd.ntmps64
  go_wp2_with fail
  refine H1.mono ?_
  rintro e w1 ⟨v1, rfl, n1, b1⟩
  have H2 := sub_ok (H0.out.1.below b1) n1 (by have := H0.out.2.2; omega)
  have B1 : Hid (Below w.heap.size w w1) := b1
  clear H1 n1 b1
  go_wp2_with fail
  refine H2.mono ?_
  rintro e w2 ⟨v2, rfl, n2, b2⟩
  have B2 : Hid (NatV w2 v2 (R - (Y - R)) ∧ Below w.heap.size w w2) := ⟨n2, B1.out.trans (b2.mono B1.out.size)⟩
  clear H2 b2 n2 B1
  go_wp2
  go_ret2
  exact ⟨v2, rfl, by have := H0.out.2.2; rw [show 2 * R - Y = R - (Y - R) from by omega]; exact B2.out.1, B2.out.2⟩
end Go.Proofs.YtealnajogkeckaaDoor
