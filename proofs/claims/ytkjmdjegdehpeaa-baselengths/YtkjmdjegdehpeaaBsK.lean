/-
  The laws' num and works.
-/
import Derived.Test.YtkjmdjegdehpeaaBsC
namespace Go.Proofs.Ytkjmdjegdehpeaa
open Go.RowKit

theorem num_nil (w : World) : Calls Try.prog 21 #[.nilIface] w fun e w' => e = .returned (.int .i64 0) ∧ w' = w := by
  go_enter Try.func21, Try.ntmps21
  go_wp2
  go_ret
  exact ⟨rfl, rfl⟩
theorem taNN (v : Value) (w : World) : (Instr.typeAssert (.iface 51 v) 32 51 true).run Try.prog w = .ok (.tuple #[v, .bool true]) w := by kernel_rfl
theorem num_errno (k : Int) (w : World) : Calls Try.prog 21 #[.iface 51 (.int .i64 k)] w fun e w' => e = .returned (.int .i64 k) ∧ w' = w := by
  have ta := fun W => taNN (.int .i64 k) W
  go_enter Try.func21, Try.ntmps21
  go_wp2
  go_ret
  exact ⟨rfl, rfl⟩
/-- An error's value, by its number. -/
def errV (k : Int) : Value := if k = 0 then .nilIface else .iface 51 (.int .i64 k)
theorem num_any (k : Int) (w : World) : Calls Try.prog 21 #[errV k] w fun e w' => e = .returned (.int .i64 k) ∧ w' = w := by
  unfold errV
  by_cases h : k = 0
  · rw [if_pos h, h]; exact num_nil w
  · rw [if_neg h]; exact num_errno k w
theorem most_ten : PMost 10 19 := by unfold PMost; decide
theorem str_eq (a : ByteArray) : (a.toList == a.toList) = true := by simp

set_option maxRecDepth 100000 in
set_option maxHeartbeats 2000000 in
theorem works_any (w : World) : Calls Try.prog 14 #[] w fun e w' => e = .returned (.bool true) ∧ Below w.heap.size w w' := by
  have P1 : ∀ W, Calls Try.prog 15 #[.string ⟨#[48, 120, 49, 102]⟩] W fun e w' => e = .returned (.tuple #[.int .i64 16, .int .i64 2]) ∧ w' = W := fun W => prefix_any ⟨#[48, 120, 49, 102]⟩ (by decide) W
  have C1 : ∀ W, Calls Try.prog 17 #[.string ⟨#[49, 95, 48, 48, 48]⟩, .int .i64 10, .bool false] W fun e w' => e = .returned (.tuple #[.string ⟨#[49, 48, 48, 48]⟩, .nilIface]) ∧ Below W.heap.size W w' := fun W => by
    have h := clean_yes ⟨#[49, 95, 48, 48, 48]⟩ (by decide) 10 (by omega) (by omega) false W
    have e : clean 10 false (⟨#[49, 95, 48, 48, 48]⟩ : ByteArray).data.toList = some [49, 48, 48, 48] := by decide
    rw [e] at h
    exact h
  have C2 : ∀ W, Calls Try.prog 17 #[.string ⟨#[49, 95, 95, 48]⟩, .int .i64 10, .bool false] W fun e w' => e = .returned (.tuple #[.string ⟨#[]⟩, .iface 51 (.int .i64 3)]) ∧ Below W.heap.size W w' := fun W => by
    have h := clean_yes ⟨#[49, 95, 95, 48]⟩ (by decide) 10 (by omega) (by omega) false W
    have e : clean 10 false (⟨#[49, 95, 95, 48]⟩ : ByteArray).data.toList = none := by decide
    rw [e] at h
    exact h
  have M1 : ∀ W, Calls Try.prog 24 #[.int .i64 10] W fun e w' => e = .returned (.tuple #[.int .i64 19, .int .u64 10000000000000000000, .nilIface]) ∧ w' = W := fun W => by
    refine (most_yes 10 (by omega) (by omega) W).mono ?_
    rintro e w' ⟨K, P, rfl, ⟨hP, hK⟩, rfl⟩
    obtain rfl := hK.uniq (by omega) most_ten
    have : P = 10000000000000000000 := hP.trans (by decide)
    subst this
    exact ⟨rfl, rfl⟩
  have G1 : ∀ W, Calls Try.prog 10 #[.int .i64 35] W fun e w' => e = .returned (.tuple #[.int .u8 122, .bool true]) ∧ w' = W := fun W => digit_any 35 W
  have N1 := fun W => num_errno 3 W
  go_enter Try.func14, Try.ntmps14
  go_wp2_with fail
  refine (P1 _).mono ?_
  rintro e w ⟨rfl, rfl⟩
  go_wp2_with fail
  refine (C1 _).mono ?_
  rintro e w1 ⟨rfl, b1⟩
  have B1 : Hid (Below w.heap.size w w1) := b1
  clear b1
  go_wp2_with fail
  refine (C2 _).mono ?_
  rintro e w2 ⟨rfl, b2⟩
  have B2 : Hid (Below w.heap.size w w2) := B1.out.trans (b2.mono B1.out.size)
  clear b2
  go_wp2_with fail
  refine (M1 _).mono ?_
  rintro e w2 ⟨rfl, rfl⟩
  go_wp2_with fail
  refine (G1 _).mono ?_
  rintro e w2 ⟨rfl, rfl⟩
  go_wp2_with fail
  refine (N1 _).mono ?_
  rintro e w2 ⟨rfl, rfl⟩
  go_wp2
  go_ret
  exact ⟨rfl, B2.out⟩
end Go.Proofs.Ytkjmdjegdehpeaa
