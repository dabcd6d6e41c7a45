/-
  What the document's Length, Bit, Low answer.
-/
import Derived.Test.YtkkgancmodhghaaDoorBigA
import Derived.Test.YtkkgancmodhghaaDoorBigN
import Derived.Test.YtkkgancmodhghaaDoorNatK
namespace Go.Proofs.YtkkgancmodhghaaDoor
open Go.RowKit

theorem half_step {t j : Nat} : t / 2 ^ j / 2 = t / 2 ^ (j + 1) := by rw [Nat.div_div_eq_div_mul, Nat.pow_succ]

set_option maxRecDepth 100000 in
set_option maxHeartbeats 1000000 in
theorem length_big {w : World} {ao : Option Addr} {n c b o : Nat} {f : Nat → Nat} (S : Big.Sl w ao n c b o f) (t : Big.Top f n) (hn : n ≤ 10000) :
    Calls Tryd.prog 68 #[.slice ao n c] w fun e w' => e = .returned (.int .i64 (bl (Big.V f n) : Int)) ∧ w' = w := by
  by_cases h0 : n = 0
  · subst h0
    have e : bl (Big.V f 0) = 0 := rfl
    rw [e]
    clear e
    go_enter Tryd.func68, Tryd.ntmps68
    go_wp2
    go_ret
    exact ⟨rfl, rfl⟩
  · obtain ⟨k, rfl⟩ : ∃ k, n = k + 1 := ⟨n - 1, by omega⟩
    have ht : f k ≠ 0 := by
      have := t.resolve_left h0
      rwa [Nat.add_sub_cancel] at this
    obtain rfl := S.addr (by omega)
    have hc := S.cell k (by omega)
    have hz : (((k + 1 : Nat) : Int) == 0) = false := beq_eq_false_iff_ne.mpr (by omega)
    have hb := S.ws k
    have HW : Hid (Big.Ws f) := S.ws
    generalize hf : f k = x at *
    have HF : Hid (f k = x) := hf
    unfold Big.B at hb
    have ix : ((k + 1 : Nat) : Int) - 1 = (k : Int) := by omega
    clear t hf S
    simp only [Int.natCast_add, Int.natCast_one] at hz
    go_enter Tryd.func68, Tryd.ntmps68
    go_wp2
    go_loop [3, 4] (fun m y => ∃ j z : Nat, m = .int .i64 ((32 * k + j : Nat) : Int) ∧ y = .int .u32 (z : Int) ∧ Hid (z = x / 2 ^ j) ∧ j ≤ 32 ∧ z < 4294967296 ∧ (j = 0 ∨ 2 ^ (j - 1) ≤ x)) (fun _ y => (intOf y).toNat)
    case atStart => exact ⟨0, x, by go_num, rfl, by show x = x / 2 ^ 0; rw [Nat.pow_zero, Nat.div_one], by omega, hb, Or.inl rfl⟩
    case round =>
      obtain ⟨j, z, rfl, rfl, HZ, hj, hzb, hlow⟩ := hrel
      have HL : Hid (j = 0 ∨ 2 ^ (j - 1) ≤ x) := hlow
      clear hlow
      by_cases c1 : 0 < z
      · have hle : 2 ^ j ≤ x := by
          rcases Nat.lt_or_ge x (2 ^ j) with q | q
          · have := HZ.out; rw [Nat.div_eq_of_lt q] at this; omega
          · exact q
        have hj32 : j < 32 := by
          rcases Nat.lt_or_ge j 32 with q | q
          · exact q
          · have : 2 ^ 32 ≤ 2 ^ j := Nat.pow_le_pow_right (by omega) q
            omega
        have HH : Hid (2 ^ j ≤ x ∧ z / 2 = x / 2 ^ (j + 1)) := ⟨hle, by rw [HZ.out]; exact half_step⟩
        clear hle
        go_wp2
        go_round
        case rel => exact ⟨j + 1, z / 2, by go_num, by go_num, HH.out.2, by omega, by omega, Or.inr HH.out.1⟩
        case measure => simp [intOf]; omega
      · obtain rfl : z = 0 := by omega
        have HR : Hid (bl (Big.V f (k + 1)) = 32 * k + j) := by
          show _ = _
          have hx2 : x < 2 ^ j := by
            rcases Nat.lt_or_ge x (2 ^ j) with q | q
            · exact q
            · have a := Nat.div_le_div_right (c := 2 ^ j) q
              rw [Nat.div_self (Nat.pow_pos (by omega)), ← HZ.out] at a
              omega
          rcases HL.out with q | q
          · subst q; rw [Nat.pow_zero] at hx2; omega
          · obtain ⟨i, rfl⟩ : ∃ i, j = i + 1 := by
              rcases j with _ | i
              · rw [Nat.pow_zero] at hx2; omega
              · exact ⟨i, rfl⟩
            rw [Nat.add_sub_cancel] at q
            exact bl_top HW.out (by rw [HF.out]; exact q) (by rw [HF.out]; exact hx2)
        clear HZ
        go_wp2
        go_ret
        exact ⟨by rw [HR.out]; rfl, rfl⟩
theorem length_nat {w : World} {va : Value} {X : Nat} (ha : Big.NatV w va X) (hX : Fits 1000 X) :
    Calls Tryd.prog 68 #[va] w fun e w' => e = .returned (.int .i64 (bl X : Int)) ∧ w' = w := by
  obtain ⟨ao, n, c, b, o, f, rfl, S, t, rfl⟩ := ha
  have := big_len t hX
  exact length_big S t (by omega)

theorem bits32_or (a b : Nat) (ha : a < 4294967296) (hb : b < 4294967296) : bits .or .u32 (a : Int) (b : Int) = ((a ||| b : Nat) : Int) := by
  have h1 : (BitVec.ofInt 32 (a : Int)).toNat = a := by
    rw [BitVec.ofInt_natCast, BitVec.toNat_ofNat]; exact Nat.mod_eq_of_lt (by omega)
  have h2 : (BitVec.ofInt 32 (b : Int)).toNat = b := by
    rw [BitVec.ofInt_natCast, BitVec.toNat_ofNat]; exact Nat.mod_eq_of_lt (by omega)
  show IntKind.u32.wrap ((BitVec.ofInt 32 (a : Int) ||| BitVec.ofInt 32 (b : Int)).toNat : Int) = _
  rw [BitVec.toNat_or, h1, h2, IntKind.wrap_u32]
  have := Nat.or_lt_two_pow (n := 32) (x := a) (y := b) (by omega) (by omega)
  omega
theorem and_one32 (a : Nat) (ha : a < 4294967296) : bits .and .u32 (a : Int) 1 = ((a % 2 : Nat) : Int) := by
  have h1 : (BitVec.ofInt 32 (a : Int)).toNat = a := by
    rw [BitVec.ofInt_natCast, BitVec.toNat_ofNat]; exact Nat.mod_eq_of_lt (by omega)
  show IntKind.u32.wrap ((BitVec.ofInt 32 (a : Int) &&& BitVec.ofInt 32 (1 : Int)).toNat : Int) = _
  rw [BitVec.toNat_and, h1, show (BitVec.ofInt 32 (1 : Int)).toNat = 1 by decide, Nat.and_one_is_mod, IntKind.wrap_u32]
  omega

set_option maxRecDepth 100000 in
set_option maxHeartbeats 1000000 in
theorem bit_any {w : World} {va : Value} {X : Nat} (ha : Big.NatV w va X) (hX : Fits 1000 X) (i : Nat) (hi : i < 9223372036854775808) :
    Calls Tryd.prog 70 #[va, .int .i64 (i : Int)] w fun e w' => e = .returned (.bool (tb X i)) ∧ w' = w := by
  obtain ⟨ao, n, c, b, o, f, rfl, S, t, rfl⟩ := ha
  have hn := big_len t hX
  by_cases c1 : i < 32 * n
  · obtain ⟨q, p, hqp, hp⟩ : ∃ q p, i = 32 * q + p ∧ p < 32 := ⟨i / 32, i % 32, by omega, by omega⟩
    have hq : q < n := by omega
    obtain rfl := S.addr (by omega)
    have hc := S.cell q hq
    have hb := S.ws q
    have e := bit_at S.ws hq hp
    rw [← hqp] at e
    have d1 : (i : Int) / 32 = (q : Int) := by omega
    have d2 : (i : Int) % 32 = (p : Int) := by omega
    have d3 : (i : Int).tdiv 32 = (q : Int) := by rw [Int.tdiv_eq_ediv_of_nonneg (by omega)]; exact d1
    have d4 : (i : Int).tmod 32 = (p : Int) := by rw [Int.tmod_eq_emod_of_nonneg (by omega)]; exact d2
    have sh : ((f q : Nat) : Int) / 2 ^ p = ((f q / 2 ^ p : Nat) : Int) := by rw [Int.natCast_ediv]; simp
    have hy : f q / 2 ^ p < 4294967296 := by
      have := Nat.div_le_self (f q) (2 ^ p)
      unfold Big.B at hb
      omega
    generalize hY : f q / 2 ^ p = y at *
    have an := and_one32 y hy
    have HE : Hid (Big.V f n / 2 ^ i % 2 = y % 2) := e
    have hc1 : (i : Int) < 32 * (n : Int) := by omega
    clear e S t hX hY hqp
    by_cases c2 : y % 2 = 1
    · rw [c2] at an
      rw [tb_one (by rw [HE.out]; exact c2)]
      clear c2
      go_enter Tryd.func70, Tryd.ntmps70
      go_wp2
      go_ret
      exact ⟨rfl, rfl⟩
    · have c3 : y % 2 = 0 := by omega
      rw [c3] at an
      rw [tb_none (by rw [HE.out]; exact c2)]
      clear c2 c3
      go_enter Tryd.func70, Tryd.ntmps70
      go_wp2
      go_ret
      exact ⟨rfl, rfl⟩
  · have hV := Big.V_lt S.ws n
    rw [D_pow] at hV
    have hV2 : Big.V f n < 2 ^ i := Nat.lt_of_lt_of_le hV (Nat.pow_le_pow_right (by omega) (by omega))
    rw [tb_big hV2]
    have hc1 : ¬ (i : Int) < 32 * (n : Int) := by omega
    clear hV hV2 S t hX
    go_enter Tryd.func70, Tryd.ntmps70
    go_wp2
    go_ret
    exact ⟨rfl, rfl⟩

end Go.Proofs.YtkkgancmodhghaaDoor
