/-
  The law ExactRight: the walk.
-/
import Derived.Test.YtfgopmgmmpkbeaaEwH
namespace Go.Proofs.Ytfgopmgmmpkbeaa
open Go.RowKit

set_option maxRecDepth 100000 in
set_option maxHeartbeats 2000000 in
theorem right_no {s : Int} (h : Sn s) (m e : Int) (w : World) : Calls Try.prog 3 #[.int .u64 m, .int .i64 e, .int .i64 s] w fun x w' => x = .returned (.bool true) ∧ w' = w := by
  have A := fun W => of_no h m e W
  have N := fun W => num_errno 5 W
  have S := fun W => works_any W
  have h1 : (s != 32) = true := bne_iff_ne.mpr h.1
  have h2 : (s != 64) = true := bne_iff_ne.mpr h.2
  clear h
  go_enter Try.func3, Try.ntmps3
  go_wp2_with fail
  refine (A _).mono ?_
  rintro x w1 ⟨rfl, rfl⟩
  go_wp2_with fail
  refine (N _).mono ?_
  rintro x w1 ⟨rfl, rfl⟩
  go_wp2_with fail
  refine (S _).mono ?_
  rintro x w1 ⟨rfl, rfl⟩
  go_wp2
  go_ret
  exact ⟨rfl, rfl⟩
set_option maxRecDepth 100000 in
set_option maxHeartbeats 2000000 in
theorem right_un32 {m : Nat} {e : Int} (m0 : m ≠ 0) (hm : 16777216 < m ∨ e < -10 ∨ 10 < e) (w : World) : Calls Try.prog 3 #[.int .u64 (m : Int), .int .i64 e, .int .i64 32] w fun x w' => x = .returned (.bool true) ∧ w' = w := by
  have A := fun W => of_un x32 (m := m) (e := e) m0 (by omega) W
  have B := fun W => must_un x32 (m := m) (e := e) m0 (by omega) W
  have S := fun W => works_any W
  clear hm m0
  go_enter Try.func3, Try.ntmps3
  go_wp2_with fail
  refine (A _).mono ?_
  rintro x w1 ⟨rfl, rfl⟩
  go_wp2_with fail
  refine (B _).mono ?_
  rintro x w1 ⟨rfl, rfl⟩
  go_wp2_with fail
  refine (S _).mono ?_
  rintro x w1 ⟨rfl, rfl⟩
  go_wp2
  go_ret
  exact ⟨rfl, rfl⟩
set_option maxRecDepth 100000 in
set_option maxHeartbeats 2000000 in
theorem right_yes32 {m : Nat} {e : Int} {R : Int} (A : ∀ W, Calls Try.prog 6 #[.int .u64 (m : Int), .int .i64 e, .int .i64 32] W fun x w' => x = .returned (.tuple #[.int .u64 R, .bool true, .nilIface]) ∧ w' = W)
    (B : ∀ W, Calls Try.prog 10 #[.int .u64 (m : Int), .int .i64 e, .int .i64 32] W fun x w' => x = .returned (.int .u64 R) ∧ Below W.heap.size W w') (w : World) : Calls Try.prog 3 #[.int .u64 (m : Int), .int .i64 e, .int .i64 32] w fun x w' => x = .returned (.bool true) ∧ Below w.heap.size w w' := by
  have S := fun W => works_any W
  go_enter Try.func3, Try.ntmps3
  go_wp2_with fail
  refine (A _).mono ?_
  rintro x w1 ⟨rfl, rfl⟩
  go_wp2_with fail
  refine (B _).mono ?_
  rintro x w2 ⟨rfl, b2⟩
  have B2 : Hid (Below _ _ w2) := b2
  clear b2
  go_wp2_with fail
  refine (S _).mono ?_
  rintro x w3 ⟨rfl, rfl⟩
  go_wp2
  go_ret
  exact ⟨rfl, B2.out⟩
set_option maxRecDepth 100000 in
set_option maxHeartbeats 2000000 in
theorem right_un64 {m : Nat} {e : Int} (m0 : m ≠ 0) (hm : 9007199254740992 < m ∨ e < -22 ∨ 22 < e) (w : World) : Calls Try.prog 3 #[.int .u64 (m : Int), .int .i64 e, .int .i64 64] w fun x w' => x = .returned (.bool true) ∧ w' = w := by
  have A := fun W => of_un x64 (m := m) (e := e) m0 (by omega) W
  have B := fun W => must_un x64 (m := m) (e := e) m0 (by omega) W
  have S := fun W => works_any W
  clear hm m0
  go_enter Try.func3, Try.ntmps3
  go_wp2_with fail
  refine (A _).mono ?_
  rintro x w1 ⟨rfl, rfl⟩
  go_wp2_with fail
  refine (B _).mono ?_
  rintro x w1 ⟨rfl, rfl⟩
  go_wp2_with fail
  refine (S _).mono ?_
  rintro x w1 ⟨rfl, rfl⟩
  go_wp2
  go_ret
  exact ⟨rfl, rfl⟩
set_option maxRecDepth 100000 in
set_option maxHeartbeats 2000000 in
theorem right_yes64 {m : Nat} {e : Int} {R : Int} (A : ∀ W, Calls Try.prog 6 #[.int .u64 (m : Int), .int .i64 e, .int .i64 64] W fun x w' => x = .returned (.tuple #[.int .u64 R, .bool true, .nilIface]) ∧ w' = W)
    (B : ∀ W, Calls Try.prog 10 #[.int .u64 (m : Int), .int .i64 e, .int .i64 64] W fun x w' => x = .returned (.int .u64 R) ∧ Below W.heap.size W w') (w : World) : Calls Try.prog 3 #[.int .u64 (m : Int), .int .i64 e, .int .i64 64] w fun x w' => x = .returned (.bool true) ∧ Below w.heap.size w w' := by
  have S := fun W => works_any W
  go_enter Try.func3, Try.ntmps3
  go_wp2_with fail
  refine (A _).mono ?_
  rintro x w1 ⟨rfl, rfl⟩
  go_wp2_with fail
  refine (B _).mono ?_
  rintro x w2 ⟨rfl, b2⟩
  have B2 : Hid (Below _ _ w2) := b2
  clear b2
  go_wp2_with fail
  refine (S _).mono ?_
  rintro x w3 ⟨rfl, rfl⟩
  go_wp2
  go_ret
  exact ⟨rfl, B2.out⟩
theorem right_law (m : Nat) (hm : m < 18446744073709551616) (e s : Int) (w : World) : Calls Try.prog 3 #[.int .u64 (m : Int), .int .i64 e, .int .i64 s] w fun x w' => x = .returned (.bool true) ∧ Below w.heap.size w w' := by
  have up : ∀ {x : Ending} {w' : World}, x = .returned (.bool true) ∧ w' = w → x = .returned (.bool true) ∧ Below w.heap.size w w' := fun ⟨a, b⟩ => ⟨a, by rw [b]; exact Below.refl _ _⟩
  rcases xz_of s with h | ⟨f, T, L, M, K, h⟩
  · exact (right_no h m e w).mono fun x w' q => up q
  · by_cases m0 : m = 0
    · subst m0
      rcases h with ⟨rfl, rfl, rfl, rfl, rfl, rfl⟩ | ⟨rfl, rfl, rfl, rfl, rfl, rfl⟩
      · exact right_yes32 (R := 0) (fun W => of_zero x32 e W) (fun W => (times_zero e 32 W).mono fun x w' ⟨a, b⟩ => ⟨a, by rw [b]; exact Below.refl _ _⟩) w
      · exact right_yes64 (R := 0) (fun W => of_zero x64 e W) (fun W => (times_zero e 64 W).mono fun x w' ⟨a, b⟩ => ⟨a, by rw [b]; exact Below.refl _ _⟩) w
    · by_cases c : M < m ∨ e < -(K : Int) ∨ (K : Int) < e
      · rcases h with ⟨rfl, rfl, rfl, rfl, rfl, rfl⟩ | ⟨rfl, rfl, rfl, rfl, rfl, rfl⟩
        · exact (right_un32 m0 (by omega) w).mono fun x w' q => up q
        · exact (right_un64 m0 (by omega) w).mono fun x w' q => up q
      · rcases h with ⟨rfl, rfl, rfl, rfl, rfl, rfl⟩ | ⟨rfl, rfl, rfl, rfl, rfl, rfl⟩
        · exact right_yes32 (fun W => of_yes x32 m0 (by omega) (by omega) (by omega) W) (fun W => times14 x32 m0 (by omega) (by omega) (by omega) W) w
        · exact right_yes64 (fun W => of_yes x64 m0 (by omega) (by omega) (by omega) W) (fun W => times14 x64 m0 (by omega) (by omega) (by omega) W) w
end Go.Proofs.Ytfgopmgmmpkbeaa
