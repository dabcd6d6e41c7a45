/-
  base's Len: what it answers for every input.
-/
import Derived.Test.YthjflphfjemanaaDoorUiA
namespace Go.Proofs.YthjflphfjemanaaDoor
open Go.RowKit

set_option maxRecDepth 100000 in
set_option maxHeartbeats 1000000 in
theorem len_yes (x b : Nat) (hx : x < 18446744073709551616) (h1 : 2 ≤ b) (h2 : b ≤ 36) (w : World) :
    Calls Tryd.prog 53 #[.int .u64 (x : Int), .int .i64 (b : Int)] w fun e w' => ∃ K : Nat, e = .returned (.tuple #[.int .i64 (K : Int), .nilIface]) ∧ DLen b x K ∧ w' = w := by
  have V := fun W => valid_yes (b : Int) (by omega) (by omega) W
  have u1 : IntKind.u64.wrap (b : Int) = (b : Int) := by rw [IntKind.wrap_u64]; omega
  have d0 : ((b : Int) == 0) = false := beq_eq_false_iff_ne.mpr (by omega)
  have HX : Hid (x < 18446744073709551616) := hx
  clear hx
  go_enter Tryd.func53, Tryd.ntmps53
  go_wp2_with fail
  refine (V _).mono ?_
  rintro e w1 ⟨rfl, rfl⟩
  go_wp2
  go_loop [0, 6] (fun xv n => ∃ k y : Nat, xv = .int .u64 (y : Int) ∧ n = .int .i64 (k : Int) ∧ 1 ≤ k ∧ k ≤ 64 ∧ y < 18446744073709551616 ∧ Hid (y = x / b ^ (k - 1) ∧ (k = 1 ∨ b ^ (k - 1) ≤ x))) (fun xv _ => (intOf xv).toNat)
  case atStart => exact ⟨1, x, rfl, rfl, Nat.le_refl _, by omega, HX.out, ⟨by rw [Nat.sub_self, Nat.pow_zero, Nat.div_one], Or.inl rfl⟩⟩
  case round =>
    clear V
    obtain ⟨k, y, rfl, rfl, hk1, hk2, hy, HY⟩ := hrel
    have hq : (y : Int) / (b : Int) = ((y / b : Nat) : Int) := by rw [Int.natCast_ediv]
    have hlt : y / b ≤ y := Nat.div_le_self _ _
    by_cases c : b ≤ y
    · have hbk : b ^ k ≤ x := by
        rw [show b ^ k = b * b ^ (k - 1) by rw [Nat.mul_comm, ← Nat.pow_succ]; congr 1; omega]
        have := HY.out.1
        rw [this] at c
        exact (Nat.le_div_iff_mul_le (Nat.pow_pos (by omega))).1 c
      have hk64 := exp_lt h1 (Nat.lt_of_le_of_lt hbk HX.out)
      have HN : Hid (y / b = x / b ^ k ∧ b ^ k ≤ x) := ⟨by rw [HY.out.1, Nat.div_div_eq_div_mul, ← Nat.pow_succ]; congr 2; omega, hbk⟩
      have hsm : y / b < y := Nat.div_lt_self (by omega) (by omega)
      clear hbk
      generalize y / b = z at *
      have c' : (b : Int) ≤ (y : Int) := by omega
      have z1 : IntKind.u64.wrap (z : Int) = (z : Int) := by rw [IntKind.wrap_u64]; omega
      go_wp2
      go_round
      case rel => exact ⟨k + 1, z, by first | rfl | rw [hq], by go_num, by omega, by omega, by omega, ⟨by rw [Nat.add_sub_cancel]; exact HN.out.1, Or.inr (by rw [Nat.add_sub_cancel]; exact HN.out.2)⟩⟩
      case measure => simp [intOf] <;> omega
    · have HD : Hid (DLen b x k) := by
        refine ⟨hk1, fun h0 => ?_, fun h0 => ?_, ?_⟩
        · rcases HY.out.2 with q | q
          · exact q
          · have : 0 < b ^ (k - 1) := Nat.pow_pos (by omega)
            omega
        · rcases HY.out.2 with q | q
          · rw [q, Nat.sub_self, Nat.pow_zero]; omega
          · exact q
        · have := HY.out.1
          rw [this] at c
          rw [show b ^ k = b * b ^ (k - 1) by rw [Nat.mul_comm, ← Nat.pow_succ]; congr 1; omega]
          exact (Nat.div_lt_iff_lt_mul (Nat.pow_pos (by omega))).1 (by omega)
      have c' : ¬ (b : Int) ≤ (y : Int) := by omega
      clear hq hlt c
      go_wp2
      go_ret2
      exact ⟨k, rfl, HD.out, rfl⟩
theorem len_no (x b : Int) (h : b < 2 ∨ 36 < b) (w : World) :
    Calls Tryd.prog 53 #[.int .u64 x, .int .i64 b] w fun e w' => e = .returned (.tuple #[.int .i64 0, .iface 63 (.int .i64 7)]) ∧ w' = w := by
  have V := fun W => valid_no b h W
  go_enter Tryd.func53, Tryd.ntmps53
  go_wp2_with fail
  refine (V _).mono ?_
  rintro e w1 ⟨rfl, rfl⟩
  go_wp2
  go_ret2
  exact ⟨rfl, rfl⟩
end Go.Proofs.YthjflphfjemanaaDoor
