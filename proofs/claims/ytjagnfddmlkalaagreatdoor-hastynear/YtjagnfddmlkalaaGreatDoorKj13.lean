/-
  Holds: VMath2 VMath3.
-/
import Derived.Lib.ItoaNum
import Derived.Test.YtjagnfddmlkalaaGreatDoorKj0
set_option maxRecDepth 100000
set_option maxHeartbeats 4000000
namespace Go.Proofs.YtjagnfddmlkalaaGreatDoor
def blen (x : Int) : Int := (Lib.bitLen x.toNat : Int)
theorem blen_fin (x b : Int) (k K : Nat) (hK : K = 2 ^ k) (h0 : 0 ≤ x) (hx : x < 18446744073709551616) (hb : b = x / K) (hb1 : b ≤ 255) (hge : k = 0 ∨ (K : Int) ≤ x) : (k : Int) + Lib.len8 b = blen x := by
 have hb0 : 0 ≤ b := by rw [hb]; exact Int.ediv_nonneg h0 (by omega)
 rw [Lib.len8_of b hb0 hb1]
 obtain ⟨y, rfl⟩ := Int.eq_ofNat_of_zero_le h0
 have e : b.toNat = y / 2 ^ k := by rw [hb, ← hK, ← Int.natCast_ediv, Int.toNat_natCast]
 unfold blen
 rw [e, Int.toNat_natCast]
 rcases hge with rfl | h
 · simp
 · rw [Lib.bitLen_shift k y (by rw [← hK]; omega) (by omega)]
   omega
theorem blen_bounds (x : Int) (h0 : 0 < x) (hx : x < 18446744073709551616) : ∃ n : Nat, blen x = (n : Int) + 1 ∧ n ≤ 63 ∧ (2 : Int) ^ n ≤ x ∧ x < 2 ^ (n + 1) := by
 obtain ⟨y, rfl⟩ := Int.eq_ofNat_of_zero_le (Int.le_of_lt h0)
 obtain ⟨a, b, c⟩ := Lib.bitLenAux_bounds 64 y (by omega) (by omega)
 have l : Lib.bitLenAux 64 y ≤ 64 := Lib.bitLen_le y 64 (by omega) (by omega)
 refine ⟨Lib.bitLenAux 64 y - 1, ?_, by omega, ?_, ?_⟩
 · show (Lib.bitLen _ : Int) = _
   unfold Lib.bitLen
   rw [Int.toNat_natCast]; omega
 · exact_mod_cast b
 · rw [Nat.sub_add_cancel a]; exact_mod_cast c
theorem blen_zero : blen 0 = 0 := by decide
theorem blen_01 (x : Int) (h0 : 0 ≤ x) (hx : x < 18446744073709551616) : 0 ≤ blen x ∧ blen x ≤ 64 := by
 by_cases h : x = 0
 · subst h; rw [blen_zero]; omega
 · obtain ⟨n, a, b, _⟩ := blen_bounds x (by omega) hx
   omega
structure Divd (U l Y Y1 Y0 : Int) : Prop where
 hY : Y = Y1 * 4294967296 + Y0
 y0 : 0 ≤ Y0
 y0' : Y0 ≤ 4294967295
 y1 : 2147483648 ≤ Y1
 y1' : Y1 ≤ 4294967295
 u0 : 0 ≤ U
 u1 : U < Y
 l0 : 0 ≤ l
 l1 : l ≤ 4294967295
def qd (U l Y : Int) : Int := (U * 4294967296 + l) / Y
def rd (U l Y : Int) : Int := (U * 4294967296 + l) % Y
theorem mul_split (q Y1 Y0 : Int) : q * (Y1 * 4294967296 + Y0) = q * Y1 * 4294967296 + q * Y0 := by rw [Int.mul_add, Int.mul_assoc]
variable {U l Y Y1 Y0 : Int}
theorem Divd.pos (h : Divd U l Y Y1 Y0) : 0 < Y := by have := h.hY; have := h.y0; have := h.y1; omega
theorem Divd.qd_lt (h : Divd U l Y Y1 Y0) : qd U l Y < 4294967296 := by
 have a := h.u1; have b := h.l1
 exact Int.ediv_lt_of_lt_mul h.pos (by omega)
theorem Divd.qd_nonneg (h : Divd U l Y Y1 Y0) : 0 ≤ qd U l Y := Int.ediv_nonneg (by have := h.u0; have := h.l0; omega) (Int.le_of_lt h.pos)
theorem Divd.rd_lt (h : Divd U l Y Y1 Y0) : 0 ≤ rd U l Y ∧ rd U l Y < Y := ⟨Int.emod_nonneg _ (by have := h.pos; omega), Int.emod_lt_of_pos _ h.pos⟩
theorem Divd.eq (_h : Divd U l Y Y1 Y0) : U * 4294967296 + l = qd U l Y * Y + rd U l Y := by
 have := Int.mul_ediv_add_emod (U * 4294967296 + l) Y
 unfold qd rd; rw [Int.mul_comm ((U * 4294967296 + l) / Y) Y]; exact this.symm
theorem Divd.start (h : Divd U l Y Y1 Y0) : qd U l Y ≤ U / Y1 ∧ U / Y1 ≤ 4294967297 ∧ U / Y1 * Y1 ≤ U ∧ U - U / Y1 * Y1 < Y1 := by
 have e := h.eq; have r := h.rd_lt
 have e3 := h.y1; have e1 := h.hY; have e4 := h.y0'
 have e5 := h.u0; have e6 := h.u1; have e7 := h.l0; have e8 := h.l1; have e9 := h.y0
 have m := Int.mul_ediv_add_emod U Y1
 have m1 := Int.emod_nonneg U (b := Y1) (by omega)
 have m2 := Int.emod_lt_of_pos U (b := Y1) (by omega)
 rw [Int.mul_comm] at m
 refine ⟨?_, ?_, by omega, by omega⟩
 · rw [Int.le_ediv_iff_mul_le (by omega)]
   have s := mul_split (qd U l Y) Y1 Y0
   rw [← e1] at s
   have p := Int.mul_nonneg h.qd_nonneg e9
   omega
 · by_cases c : U / Y1 ≤ 4294967297
   · exact c
   · have := Int.mul_le_mul (a := 4294967298) (b := Y1) (c := U / Y1) (d := Y1) (by omega) (Int.le_refl _) (by omega) (by omega)
     omega
theorem Divd.down1 (h : Divd U l Y Y1 Y0) {q : Int} (hq : 4294967296 ≤ q) : qd U l Y ≤ q - 1 := by have := h.qd_lt; omega
theorem Divd.down2 (h : Divd U l Y Y1 Y0) {q r : Int} (he : q * Y1 + r = U) (hg : 4294967296 * r + l < q * Y0) : qd U l Y ≤ q - 1 := by
 have s := mul_split q Y1 Y0
 rw [← h.hY] at s
 have : qd U l Y < q := Int.ediv_lt_of_lt_mul h.pos (by omega)
 omega
theorem Divd.done (h : Divd U l Y Y1 Y0) {q r : Int} (he : q * Y1 + r = U) (hq : qd U l Y ≤ q) (hg : q * Y0 ≤ 4294967296 * r + l) : q = qd U l Y := by
 have s := mul_split q Y1 Y0
 rw [← h.hY] at s
 have : q ≤ qd U l Y := (Int.le_ediv_iff_mul_le h.pos).mpr (by omega)
 omega
theorem Divd.broke (h : Divd U l Y Y1 Y0) {q r : Int} (he : q * Y1 + r = U) (hq : qd U l Y ≤ q) (hq' : q ≤ 4294967296) (hr : 4294967296 ≤ r) : q = qd U l Y := by
 have h0 := h.qd_nonneg
 have p := Int.mul_le_mul (a := q) (b := Y0) (c := 4294967296) (d := 4294967295) hq' h.y0' h.y0 (by omega)
 have := h.l0
 exact h.done he hq (by omega)
theorem Divd.prod (h : Divd U l Y Y1 Y0) {q : Int} (h0 : 0 ≤ q) (hq : q ≤ 4294967297) : 0 ≤ q * Y0 ∧ q * Y0 < 18446744073709551616 := by
 have p := Int.mul_le_mul (a := q) (b := Y0) (c := 4294967297) (d := 4294967295) hq h.y0' h.y0 (by omega)
 exact ⟨Int.mul_nonneg h0 h.y0, by omega⟩
theorem step_eq {q r Y1 U : Int} (he : q * Y1 + r = U) : (q - 1) * Y1 + (r + Y1) = U := by rw [Int.sub_mul]; omega
theorem div_whole {hi lo y S U L L1 L0 Y N : Int} (hS : 0 < S) (hy : 0 < y) (hY : Y = y * S) (hUL : (hi * 18446744073709551616 + lo) * S = U * 18446744073709551616 + L)
 (hL : L = L1 * 4294967296 + L0) {q1 q0 R : Int} (e1 : U * 4294967296 + L1 = q1 * Y + N) (e2 : N * 4294967296 + L0 = q0 * Y + R) (r0 : 0 ≤ R) (r1 : R < Y) :
 q1 * 4294967296 + q0 = (hi * 18446744073709551616 + lo) / y ∧ R / S = (hi * 18446744073709551616 + lo) % y := by
 generalize hi * 18446744073709551616 + lo = V at *
 have a : V * S = (q1 * 4294967296 + q0) * y * S + R := by
  have b1 : (q1 * 4294967296 + q0) * y * S = q1 * Y * 4294967296 + q0 * Y := by
   rw [Int.mul_assoc, ← hY, Int.add_mul, Int.mul_right_comm]
  rw [b1]; omega
 generalize q1 * 4294967296 + q0 = q at *
 have c : R = (V - q * y) * S := by rw [Int.sub_mul]; omega
 have d : R / S = V - q * y := by rw [c, Int.mul_ediv_cancel _ (by omega)]
 have f0 : 0 ≤ V - q * y := by rw [← d]; exact Int.ediv_nonneg r0 (by omega)
 have f1 : V - q * y < y := by rw [← d]; exact Int.ediv_lt_of_lt_mul hS (by omega)
 have g : V = (V - q * y) + y * q := by rw [Int.mul_comm y q]; omega
 constructor
 · rw [g, Int.add_mul_ediv_left _ _ (by omega), Int.ediv_eq_zero_of_lt f0 f1, Int.zero_add]
 · rw [d, g, Int.add_mul_emod_self_left, Int.emod_eq_of_lt f0 f1]
   rw [Int.mul_comm y q]; omega
end Go.Proofs.YtjagnfddmlkalaaGreatDoor
