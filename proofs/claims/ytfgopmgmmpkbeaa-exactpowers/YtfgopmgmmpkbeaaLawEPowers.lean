/-
  The law ExactPowers: the walk.
-/
import Derived.Test.YtfgopmgmmpkbeaaEwH
namespace Go.Proofs.Ytfgopmgmmpkbeaa
open Go.RowKit

theorem errV_5 : errV 5 = .iface 53 (.int .i64 5) := if_neg (by decide)
theorem errV_1 : errV 1 = .iface 53 (.int .i64 1) := if_neg (by decide)
theorem errV_0 : errV 0 = .nilIface := if_pos rfl
theorem still {x : Ending} {W w' : World} {a : Ending} (h : x = a ∧ w' = W) : x = a ∧ Below W.heap.size W w' := ⟨h.1, by rw [h.2]; exact Below.refl _ _⟩
theorem pow_both (n s : Int) : ∃ (R k : Int), (∀ W, Calls Try.prog 11 #[.int .i64 n, .int .i64 s] W fun x w' => x = .returned (.tuple #[.int .u64 R, errV k]) ∧ w' = W) ∧ (∀ W, Calls Try.prog 12 #[.int .i64 n, .int .i64 s] W fun x w' => x = .returned (.tuple #[.int .u64 R, .int .i64 k]) ∧ Below W.heap.size W w') := by
  rcases xz_of s with h | ⟨f, T, L, M, K, h⟩
  · exact ⟨0, 5, by rw [errV_5]; exact fun W => pow_no h n W, fun W => (rpow_no h n W).mono fun x w' q => still q⟩
  · by_cases c : n < 0 ∨ (K : Int) < n
    · exact ⟨0, 1, by rw [errV_1]; exact fun W => pow_bad h c W, fun W => (rpow_bad h c W).mono fun x w' q => still q⟩
    · exact ⟨_, 0, by rw [errV_0]; exact fun W => pow_yes h (by omega) (by omega) W, fun W => rpow_yes h (by omega) (by omega) W⟩
theorem most_both (s : Int) : ∃ (M K k : Int), (∀ W, Calls Try.prog 13 #[.int .i64 s] W fun x w' => x = .returned (.tuple #[.int .u64 M, .int .i64 K, errV k]) ∧ w' = W) ∧ (∀ W, Calls Try.prog 14 #[.int .i64 s] W fun x w' => x = .returned (.tuple #[.int .u64 M, .int .i64 K, .int .i64 k]) ∧ w' = W) := by
  rcases xz_of s with h | ⟨f, T, L, M, K, h⟩
  · exact ⟨0, 0, 5, by rw [errV_5]; exact fun W => most_no h W, fun W => rmost_no h W⟩
  · exact ⟨M, K, 0, by rw [errV_0]; exact fun W => most_ok h W, fun W => rmost_ok h W⟩
theorem whole_both (m : Nat) (s : Int) : ∃ (R k : Int) (b : Bool), (∀ W, Calls Try.prog 15 #[.int .u64 (m : Int), .int .i64 s] W fun x w' => x = .returned (.tuple #[.int .u64 R, .bool b, errV k]) ∧ w' = W) ∧ (∀ W, Calls Try.prog 16 #[.int .u64 (m : Int), .int .i64 s] W fun x w' => x = .returned (.tuple #[.int .u64 R, .bool b, .int .i64 k]) ∧ Below W.heap.size W w') := by
  rcases xz_of s with h | ⟨f, T, L, M, K, h⟩
  · exact ⟨0, 5, false, by rw [errV_5]; exact fun W => whole_no h m W, fun W => (rwhole_no h m W).mono fun x w' q => still q⟩
  · by_cases c : M < m
    · exact ⟨0, 0, false, by rw [errV_0]; exact fun W => whole_un h c W, fun W => (rwhole_un h c W).mono fun x w' q => still q⟩
    · exact ⟨_, 0, true, by rw [errV_0]; exact fun W => whole_yes h (by omega) W, fun W => rwhole_yes h (by omega) W⟩
set_option maxRecDepth 100000 in
set_option maxHeartbeats 2000000 in
theorem powers_law (n : Int) (m : Nat) (_hm : m < 18446744073709551616) (s : Int) (w : World) : Calls Try.prog 4 #[.int .i64 n, .int .u64 (m : Int), .int .i64 s] w fun x w' => x = .returned (.bool true) ∧ Below w.heap.size w w' := by
  obtain ⟨R1, k1, A1, B1⟩ := pow_both n s
  obtain ⟨M2, K2, k2, A2, B2⟩ := most_both s
  obtain ⟨R3, k3, b3, A3, B3⟩ := whole_both m s
  have N1 := fun W => num_any k1 W
  have N2 := fun W => num_any k2 W
  have N3 := fun W => num_any k3 W
  have S := fun W => works_any W
  generalize errV k1 = e1 at *
  generalize errV k2 = e2 at *
  generalize errV k3 = e3 at *
  have q3 : ∀ W, (binOp .eql 4 (.bool b3) (.bool b3)).run Try.prog W = .ok (.bool true) W := fun W => by cases b3 <;> rfl
  go_enter Try.func4, Try.ntmps4
  go_wp2_with fail
  refine (A1 _).mono ?_
  rintro x w1 ⟨rfl, rfl⟩
  go_wp2_with fail
  refine (B1 _).mono ?_
  rintro x w2 ⟨rfl, b2⟩
  have H2 : Hid (Below _ _ w2) := b2
  clear b2
  go_wp2_with fail
  refine (A2 _).mono ?_
  rintro x w2 ⟨rfl, rfl⟩
  go_wp2_with fail
  refine (B2 _).mono ?_
  rintro x w2 ⟨rfl, rfl⟩
  go_wp2_with fail
  refine (A3 _).mono ?_
  rintro x w2 ⟨rfl, rfl⟩
  go_wp2_with fail
  refine (B3 _).mono ?_
  rintro x w3 ⟨rfl, b3⟩
  have H3 : Hid (Below _ _ w3) := H2.out.trans (b3.mono H2.out.size)
  clear b3 H2
  go_wp2_with fail
  refine (N1 _).mono ?_
  rintro x w3 ⟨rfl, rfl⟩
  go_wp2_with fail
  refine (N2 _).mono ?_
  rintro x w3 ⟨rfl, rfl⟩
  go_wp2_with fail
  refine (N3 _).mono ?_
  rintro x w3 ⟨rfl, rfl⟩
  go_wp2_with fail
  refine (S _).mono ?_
  rintro x w3 ⟨rfl, rfl⟩
  go_wp2
  go_ret
  exact ⟨rfl, H3.out⟩
end Go.Proofs.Ytfgopmgmmpkbeaa
