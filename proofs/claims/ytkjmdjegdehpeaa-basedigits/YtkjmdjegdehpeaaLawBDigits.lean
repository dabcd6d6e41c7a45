/-
  The law BaseDigits: the walk.
-/
import Derived.Test.YtkjmdjegdehpeaaBsK
namespace Go.Proofs.Ytkjmdjegdehpeaa
open Go.RowKit

theorem valid_any (b : Int) (w : World) : Calls Try.prog 12 #[.int .i64 b] w fun e w' => e = .returned (.bool (baseB b)) ∧ w' = w := by
  by_cases h : 2 ≤ b ∧ b ≤ 36
  · rw [show baseB b = true from decide_eq_true h]; exact valid_yes b h.1 h.2 w
  · rw [show baseB b = false from decide_eq_false h]; exact valid_no b (by omega) w
theorem rvalid_any (b : Int) (w : World) : Calls Try.prog 13 #[.int .i64 b] w fun e w' => e = .returned (.bool (baseB b)) ∧ w' = w := by
  by_cases h : 2 ≤ b ∧ b ≤ 36
  · rw [show baseB b = true from decide_eq_true h]; exact rvalid_yes b h.1 h.2 w
  · rw [show baseB b = false from decide_eq_false h]; exact rvalid_no b (by omega) w

set_option maxRecDepth 100000 in
set_option maxHeartbeats 2000000 in
theorem digits_law (c : Nat) (hc : c < 256) (n : Int) (w : World) :
    Calls Try.prog 3 #[.int .u8 (c : Int), .int .i64 n] w fun e w' => e = .returned (.bool true) ∧ Below w.heap.size w w' := by
  have V1 := fun W => bvalue_any c hc W
  have V2 := fun W => dvalue_any c hc W
  have G1 := fun W => digit_any n W
  have G2 := fun W => rdigit_any n W
  have A1 := fun W => valid_any n W
  have A2 := fun W => rvalid_any n W
  have S1 := fun W => works_any W
  generalize vN c = x at *
  generalize vB c = xb at *
  generalize gN n = y at *
  generalize gB n = yb at *
  generalize baseB n = vb at *
  have q1 : ∀ W, (binOp .eql 4 (.bool xb) (.bool xb)).run Try.prog W = .ok (.bool true) W := fun W => by cases xb <;> rfl
  have q2 : ∀ W, (binOp .eql 4 (.bool yb) (.bool yb)).run Try.prog W = .ok (.bool true) W := fun W => by cases yb <;> rfl
  have q3 : ∀ W, (binOp .eql 4 (.bool vb) (.bool vb)).run Try.prog W = .ok (.bool true) W := fun W => by cases vb <;> rfl
  go_enter Try.func3, Try.ntmps3
  go_wp2_with fail
  refine (V1 _).mono ?_
  rintro e w ⟨rfl, rfl⟩
  go_wp2_with fail
  refine (V2 _).mono ?_
  rintro e w ⟨rfl, rfl⟩
  go_wp2_with fail
  refine (G1 _).mono ?_
  rintro e w ⟨rfl, rfl⟩
  go_wp2_with fail
  refine (G2 _).mono ?_
  rintro e w ⟨rfl, rfl⟩
  go_wp2_with fail
  refine (A1 _).mono ?_
  rintro e w ⟨rfl, rfl⟩
  go_wp2_with fail
  refine (A2 _).mono ?_
  rintro e w ⟨rfl, rfl⟩
  go_wp2_with fail
  refine (S1 _).mono ?_
  rintro e w1 ⟨rfl, b1⟩
  go_wp2
  go_ret
  exact ⟨rfl, b1⟩
end Go.Proofs.Ytkjmdjegdehpeaa
