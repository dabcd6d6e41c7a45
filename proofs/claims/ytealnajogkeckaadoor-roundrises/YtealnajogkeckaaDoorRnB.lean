/-
  What dropped of round answers.
-/
import Derived.Test.YtealnajogkeckaaDoorRnA
import Derived.Test.YtealnajogkeckaaDoorRnM
import Derived.BigQuiet
namespace Go.Proofs.YtealnajogkeckaaDoor
open Go.RowKit

set_option maxRecDepth 100000 in
set_option maxHeartbeats 1000000 in
theorem drop_none {m : Nat} (more : Bool) (w : World) : Calls Tryd.prog 65 #[.int .u64 (m : Int), .int .i64 0, .bool more] w fun e w' => e = .returned (.int .u64 (m : Int)) ∧ w' = w := by
  go_enter Tryd.func65, Tryd.ntmps65
  go_wp2
  go_ret
  exact ⟨rfl, rfl⟩
set_option maxRecDepth 100000 in
set_option maxHeartbeats 1000000 in
theorem drop_far {m D : Nat} (hm : m < 18446744073709551616) (hD : 64 < D) (hD2 : D < 9223372036854775808) (more : Bool) (w : World) : Calls Tryd.prog 65 #[.int .u64 (m : Int), .int .i64 (D : Int), .bool more] w fun e w' => e = .returned (.int .u64 0) ∧ w' = w := by
  have p1 : ((D : Int) == 0) = false := by simp; omega
  have p2 : (64 : Int) < (D : Int) := by omega
  have p3 : ¬ (D : Int) < 0 := by omega
  go_enter Tryd.func65, Tryd.ntmps65
  go_wp2
  have e : (m : Int) / 2 ^ min D 64 = 0 := by
    rw [show min D 64 = 64 from by omega]
    omega
  rw [e]
  go_ret
  exact ⟨rfl, rfl⟩
set_option maxRecDepth 100000 in
set_option maxHeartbeats 1000000 in
theorem drop_some {m D : Nat} (hm : m < 18446744073709551616) (hD : D ≤ 64) (hD0 : D ≠ 0) (more : Bool) (w : World) : Calls Tryd.prog 65 #[.int .u64 (m : Int), .int .i64 (D : Int), .bool more] w fun e w' => e = .returned (.int .u64 ((dpK m D more : Nat) : Int)) ∧ Below w.heap.size w w' := by
  have p1 : ((D : Int) == 0) = false := by simp; omega
  have p2 : ¬ (64 : Int) < (D : Int) := by omega
  have p3 : ¬ (D : Int) < 0 := by omega
  have p4 : ¬ (D : Int) - 1 < 0 := by omega
  obtain ⟨Z, hZ⟩ : ∃ Z, Z = dpK m D more := ⟨_, rfl⟩
  rw [← hZ]
  have HZ : Hid (Z = dpK m D more) := hZ
  clear hZ
  go_enter Tryd.func65, Tryd.ntmps65
  go_wp2
  go_quiet (fail)
  have hu : dpU m D more = decide (2 ^ (D - 1) < m % 2 ^ D ∨ (m % 2 ^ D = 2 ^ (D - 1) ∧ (more = true ∨ m / 2 ^ D % 2 = 1))) := by
    unfold dpU
    simp [hD, hD0]
  have hp : 2 ^ (D - 1) < 18446744073709551616 := Nat.lt_of_le_of_lt (Nat.pow_le_pow_right (by omega) (show D - 1 ≤ 63 by omega)) (by decide)
  have e1 : (m : Int) / 2 ^ D = ((m / 2 ^ D : Nat) : Int) := by push_cast; rfl
  have e2 : (2 : Int) ^ (D - 1) = ((2 ^ (D - 1) : Nat) : Int) := by push_cast; rfl
  have e3 : ((m / 2 ^ D : Nat) : Int) * 2 ^ D = ((m / 2 ^ D * 2 ^ D : Nat) : Int) := by push_cast; rfl
  have e4 : m / 2 ^ D * 2 ^ D + m % 2 ^ D = m := by rw [Nat.mul_comm]; exact Nat.div_add_mod m (2 ^ D)
  have hk : m / 2 ^ D < 9223372036854775808 := by
    rw [Nat.div_lt_iff_lt_mul (Nat.two_pow_pos D), show D = D - 1 + 1 from by omega, Nat.pow_succ]
    have := Nat.two_pow_pos (D - 1)
    generalize 2 ^ (D - 1) = z at *
    omega
  have hZ := HZ.out
  clear HZ
  unfold dpK at hZ
  rw [e1, e2, e3]
  generalize m / 2 ^ D * 2 ^ D = P at *
  have w1 : IntKind.u64.wrap (P : Int) = (P : Int) := IntWalk.u64_in _ ⟨by omega, by omega⟩
  have w2 : IntKind.u64.wrap ((m : Int) - (P : Int)) = ((m % 2 ^ D : Nat) : Int) := by
    rw [show (m : Int) - (P : Int) = ((m % 2 ^ D : Nat) : Int) from by omega]
    exact IntWalk.u64_in _ ⟨by omega, by omega⟩
  have w3 : IntKind.u64.wrap ((2 ^ (D - 1) : Nat) : Int) = ((2 ^ (D - 1) : Nat) : Int) := by
    generalize 2 ^ (D - 1) = z at *
    exact IntWalk.u64_in _ ⟨by omega, by omega⟩
  rw [w1, w2, w3]
  clear w1 w2 w3 e1 e2 e3 e4 p1 p2 p3 p4 hD hD0
  generalize m % 2 ^ D = R at *
  generalize m / 2 ^ D = k at *
  generalize 2 ^ (D - 1) = H at *
  generalize dpU m D more = U at *
  subst hu
  have q : k % 2 = 0 ∨ k % 2 = 1 := by omega
  have fin : Below w.heap.size w (w.drewN nq) := below_drewN (Below.refl _ _) nq
  cases more
  · simp only [Bool.false_eq_true, false_or, decide_eq_true_eq] at hZ
    go_wp2
    all_goals go_ret
    all_goals simp only [beq_iff_eq, beq_eq_false_iff_ne, ne_eq] at *
    all_goals first
      | (refine ⟨congrArg (fun z : Int => Ending.returned (.int .u64 z)) (show (k : Int) + 1 = (Z : Int) from ?_), fin⟩; split at hZ <;> omega)
      | (refine ⟨congrArg (fun z : Int => Ending.returned (.int .u64 z)) (show (k : Int) = (Z : Int) from ?_), fin⟩; split at hZ <;> omega)
  · simp only [true_or, and_true, decide_eq_true_eq] at hZ
    go_wp2
    all_goals go_ret
    all_goals first
      | (refine ⟨congrArg (fun z : Int => Ending.returned (.int .u64 z)) (show (k : Int) + 1 = (Z : Int) from ?_), fin⟩; split at hZ <;> omega)
      | (refine ⟨congrArg (fun z : Int => Ending.returned (.int .u64 z)) (show (k : Int) = (Z : Int) from ?_), fin⟩; split at hZ <;> omega)
theorem dropped_any {m D : Nat} (hm : m < 18446744073709551616) (hD : D < 9223372036854775808) (more : Bool) (w : World) : Calls Tryd.prog 65 #[.int .u64 (m : Int), .int .i64 (D : Int), .bool more] w fun e w' => e = .returned (.int .u64 ((dpK m D more : Nat) : Int)) ∧ Below w.heap.size w w' := by
  by_cases h0 : D = 0
  · subst h0
    have e : dpK m 0 more = m := by unfold dpK dpU; simp
    rw [e]
    exact (drop_none more w).mono fun e w' q => ⟨q.1, by rw [q.2]; exact Below.refl _ _⟩
  by_cases h1 : D ≤ 64
  · exact drop_some hm h1 h0 more w
  · have e : dpK m D more = 0 := by
      unfold dpK dpU
      rw [if_neg (by simp [h1]), Nat.add_zero]
      exact Nat.div_eq_of_lt (Nat.lt_of_lt_of_le hm (Nat.le_trans (by decide : 18446744073709551616 ≤ 2 ^ 64) (Nat.pow_le_pow_right (by omega) (by omega))))
    rw [e]
    exact (drop_far hm (by omega) hD more w).mono fun e w' q => ⟨q.1, by rw [q.2]; exact Below.refl _ _⟩
end Go.Proofs.YtealnajogkeckaaDoor
