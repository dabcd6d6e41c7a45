/-
  What exact.Most, Of, Power, Whole answer for every input; the law's num and works.
-/
import Derived.Test.YtfgopmgmmpkbeaaEwB
namespace Go.Proofs.Ytfgopmgmmpkbeaa
open Go.RowKit

theorem num_nil (w : World) : Calls Try.prog 7 #[.nilIface] w fun e w' => e = .returned (.int .i64 0) ∧ w' = w := by
  go_enter Try.func7, Try.ntmps7
  go_wp2
  go_ret
  exact ⟨rfl, rfl⟩
theorem taNN (v : Value) (w : World) : (Instr.typeAssert (.iface 53 v) 24 53 true).run Try.prog w = .ok (.tuple #[v, .bool true]) w := by kernel_rfl
theorem num_errno (k : Int) (w : World) : Calls Try.prog 7 #[.iface 53 (.int .i64 k)] w fun e w' => e = .returned (.int .i64 k) ∧ w' = w := by
  have ta := fun W => taNN (.int .i64 k) W
  go_enter Try.func7, Try.ntmps7
  go_wp2
  go_ret
  exact ⟨rfl, rfl⟩
/-- An error's value, by its number. -/
def errV (k : Int) : Value := if k = 0 then .nilIface else .iface 53 (.int .i64 k)
theorem num_any (k : Int) (w : World) : Calls Try.prog 7 #[errV k] w fun e w' => e = .returned (.int .i64 k) ∧ w' = w := by
  unfold errV
  by_cases h : k = 0
  · rw [if_pos h, h]; exact num_nil w
  · rw [if_neg h]; exact num_errno k w

theorem xz_of (s : Int) : Sn s ∨ ∃ f T L M K, Xz s f T L M K := by
  by_cases a : s = 32
  · exact .inr ⟨_, _, _, _, _, .inl ⟨a, rfl, rfl, rfl, rfl, rfl⟩⟩
  · by_cases b : s = 64
    · exact .inr ⟨_, _, _, _, _, .inr ⟨b, rfl, rfl, rfl, rfl, rfl⟩⟩
    · exact .inl ⟨a, b⟩
theorem most_no {s : Int} (h : Sn s) (w : World) : Calls Try.prog 13 #[.int .i64 s] w fun e w' => e = .returned (.tuple #[.int .u64 0, .int .i64 0, .iface 53 (.int .i64 5)]) ∧ w' = w := by
  obtain ⟨h1, h2⟩ := h
  go_enter Try.func13, Try.ntmps13
  go_wp2
  refine bodyPost_ret (v := .tuple #[.int .u64 0, .int .i64 0, .iface 53 (.int .i64 5)]) (by simp [results, Try.results13, go_sem]) rfl ⟨rfl, rfl⟩
theorem most_ok {s : Int} {f T : Nat} {L : Int} {M K : Nat} (h : Xz s f T L M K) (w : World) : Calls Try.prog 13 #[.int .i64 s] w fun e w' => e = .returned (.tuple #[.int .u64 (M : Int), .int .i64 (K : Int), .nilIface]) ∧ w' = w := by
  rcases h with ⟨rfl, rfl, rfl, rfl, rfl, rfl⟩ | ⟨rfl, rfl, rfl, rfl, rfl, rfl⟩
  · go_enter Try.func13, Try.ntmps13
    go_wp2
    refine bodyPost_ret (v := .tuple #[.int .u64 16777216, .int .i64 10, .nilIface]) (by simp [results, Try.results13, go_sem]) rfl ⟨rfl, rfl⟩
  · go_enter Try.func13, Try.ntmps13
    go_wp2
    refine bodyPost_ret (v := .tuple #[.int .u64 9007199254740992, .int .i64 22, .nilIface]) (by simp [results, Try.results13, go_sem]) rfl ⟨rfl, rfl⟩
theorem of_no {s : Int} (h : Sn s) (m e : Int) (w : World) : Calls Try.prog 6 #[.int .u64 m, .int .i64 e, .int .i64 s] w fun x w' => x = .returned (.tuple #[.int .u64 0, .bool false, .iface 53 (.int .i64 5)]) ∧ w' = w := by
  have T := fun W => most_no h W
  clear h
  go_enter Try.func6, Try.ntmps6
  go_wp2_with fail
  refine (T _).mono ?_
  rintro x w1 ⟨rfl, rfl⟩
  go_wp2
  refine bodyPost_ret (v := .tuple #[.int .u64 0, .bool false, .iface 53 (.int .i64 5)]) (by simp [results, Try.results6, go_sem]) rfl ⟨rfl, rfl⟩
set_option maxHeartbeats 1000000 in
theorem of_zero {s : Int} {f T : Nat} {L : Int} {M K : Nat} (h : Xz s f T L M K) (e : Int) (w : World) : Calls Try.prog 6 #[.int .u64 0, .int .i64 e, .int .i64 s] w fun x w' => x = .returned (.tuple #[.int .u64 0, .bool true, .nilIface]) ∧ w' = w := by
  have T := fun W => most_ok h W
  have R := fun W => reckon_ok h (m := 0) (e := 0) (Nat.zero_le _) (by omega) (by omega) (fun _ => rfl) W
  rw [exA_zero, show ((0 : Nat) : Int) = 0 from rfl] at R
  have c1 : ¬ (M : Int) < 0 := by omega
  have c2 : ¬ (0 : Int) < -(K : Int) := by omega
  have c3 : ¬ (K : Int) < 0 := by omega
  have hk : K ≤ 22 := by rcases h with ⟨_, _, _, _, _, q⟩ | ⟨_, _, _, _, _, q⟩ <;> omega
  clear h
  go_enter Try.func6, Try.ntmps6
  go_wp2_with fail
  refine (T _).mono ?_
  rintro x w1 ⟨rfl, rfl⟩
  go_wp2_with fail
  refine (R _).mono ?_
  rintro x w1 ⟨rfl, rfl⟩
  go_wp2
  refine bodyPost_ret (v := .tuple #[.int .u64 0, .bool true, .nilIface]) (by simp [results, Try.results6, go_sem]) rfl ⟨rfl, rfl⟩
set_option maxHeartbeats 1000000 in
theorem of_yes {s : Int} {f T : Nat} {L : Int} {M K : Nat} (h : Xz s f T L M K) {m : Nat} {e : Int} (m0 : m ≠ 0) (hm : m ≤ M) (h0 : -(K : Int) ≤ e) (h1 : e ≤ K) (w : World) : Calls Try.prog 6 #[.int .u64 (m : Int), .int .i64 e, .int .i64 s] w fun x w' => x = .returned (.tuple #[.int .u64 ((exA f T L m e : Nat) : Int), .bool true, .nilIface]) ∧ w' = w := by
  have T := fun W => most_ok h W
  have R := fun W => reckon_ok h hm h0 h1 (fun z => absurd z m0) W
  have c0 : ((m : Int) == 0) = false := by simp; omega
  have c1 : ¬ (M : Int) < (m : Int) := by omega
  have c2 : ¬ e < -(K : Int) := by omega
  have c3 : ¬ (K : Int) < e := by omega
  have hk : K ≤ 22 := by rcases h with ⟨_, _, _, _, _, q⟩ | ⟨_, _, _, _, _, q⟩ <;> omega
  clear h hm h0 h1 m0
  generalize exA f _ L m e = RR at *
  go_enter Try.func6, Try.ntmps6
  go_wp2_with fail
  refine (T _).mono ?_
  rintro x w1 ⟨rfl, rfl⟩
  go_wp2_with fail
  refine (R _).mono ?_
  rintro x w1 ⟨rfl, rfl⟩
  go_wp2
  refine bodyPost_ret (v := .tuple #[.int .u64 (RR : Int), .bool true, .nilIface]) (by simp [results, Try.results6, go_sem]) rfl ⟨rfl, rfl⟩
set_option maxHeartbeats 1000000 in
theorem of_un {s : Int} {f T : Nat} {L : Int} {M K : Nat} (h : Xz s f T L M K) {m : Nat} {e : Int} (m0 : m ≠ 0) (hm : M < m ∨ e < -(K : Int) ∨ (K : Int) < e) (w : World) : Calls Try.prog 6 #[.int .u64 (m : Int), .int .i64 e, .int .i64 s] w fun x w' => x = .returned (.tuple #[.int .u64 0, .bool false, .nilIface]) ∧ w' = w := by
  have T := fun W => most_ok h W
  have c0 : ((m : Int) == 0) = false := by simp; omega
  have hk : K ≤ 22 := by rcases h with ⟨_, _, _, _, _, q⟩ | ⟨_, _, _, _, _, q⟩ <;> omega
  clear h m0
  by_cases c1 : (M : Int) < (m : Int)
  · clear hm
    go_enter Try.func6, Try.ntmps6
    go_wp2_with fail
    refine (T _).mono ?_
    rintro x w1 ⟨rfl, rfl⟩
    go_wp2
    refine bodyPost_ret (v := .tuple #[.int .u64 0, .bool false, .nilIface]) (by simp [results, Try.results6, go_sem]) rfl ⟨rfl, rfl⟩
  · by_cases c2 : e < -(K : Int)
    · clear hm
      go_enter Try.func6, Try.ntmps6
      go_wp2_with fail
      refine (T _).mono ?_
      rintro x w1 ⟨rfl, rfl⟩
      go_wp2
      refine bodyPost_ret (v := .tuple #[.int .u64 0, .bool false, .nilIface]) (by simp [results, Try.results6, go_sem]) rfl ⟨rfl, rfl⟩
    · have c3 : (K : Int) < e := by omega
      clear hm
      go_enter Try.func6, Try.ntmps6
      go_wp2_with fail
      refine (T _).mono ?_
      rintro x w1 ⟨rfl, rfl⟩
      go_wp2
      refine bodyPost_ret (v := .tuple #[.int .u64 0, .bool false, .nilIface]) (by simp [results, Try.results6, go_sem]) rfl ⟨rfl, rfl⟩
theorem pow_no {s : Int} (h : Sn s) (n : Int) (w : World) : Calls Try.prog 11 #[.int .i64 n, .int .i64 s] w fun x w' => x = .returned (.tuple #[.int .u64 0, .iface 53 (.int .i64 5)]) ∧ w' = w := by
  have T := fun W => most_no h W
  clear h
  go_enter Try.func11, Try.ntmps11
  go_wp2_with fail
  refine (T _).mono ?_
  rintro x w1 ⟨rfl, rfl⟩
  go_wp2
  refine bodyPost_ret (v := .tuple #[.int .u64 0, .iface 53 (.int .i64 5)]) (by simp [results, Try.results11, go_sem]) rfl ⟨rfl, rfl⟩
theorem pow_bad {s : Int} {f T : Nat} {L : Int} {M K : Nat} (h : Xz s f T L M K) {n : Int} (hn : n < 0 ∨ (K : Int) < n) (w : World) : Calls Try.prog 11 #[.int .i64 n, .int .i64 s] w fun x w' => x = .returned (.tuple #[.int .u64 0, .iface 53 (.int .i64 1)]) ∧ w' = w := by
  have T := fun W => most_ok h W
  clear h
  by_cases c : n < 0
  · clear hn
    go_enter Try.func11, Try.ntmps11
    go_wp2_with fail
    refine (T _).mono ?_
    rintro x w1 ⟨rfl, rfl⟩
    go_wp2
    refine bodyPost_ret (v := .tuple #[.int .u64 0, .iface 53 (.int .i64 1)]) (by simp [results, Try.results11, go_sem]) rfl ⟨rfl, rfl⟩
  · have c2 : (K : Int) < n := by omega
    clear hn
    go_enter Try.func11, Try.ntmps11
    go_wp2_with fail
    refine (T _).mono ?_
    rintro x w1 ⟨rfl, rfl⟩
    go_wp2
    refine bodyPost_ret (v := .tuple #[.int .u64 0, .iface 53 (.int .i64 1)]) (by simp [results, Try.results11, go_sem]) rfl ⟨rfl, rfl⟩
theorem pow_yes {s : Int} {f T : Nat} {L : Int} {M K : Nat} (h : Xz s f T L M K) {n : Int} (h0 : 0 ≤ n) (h1 : n ≤ K) (w : World) : Calls Try.prog 11 #[.int .i64 n, .int .i64 s] w fun x w' => x = .returned (.tuple #[.int .u64 ((exA f T L 1 n : Nat) : Int), .nilIface]) ∧ w' = w := by
  have T := fun W => most_ok h W
  have hm : 1 ≤ M := by rcases h with ⟨_, _, _, _, q, _⟩ | ⟨_, _, _, _, q, _⟩ <;> omega
  have R := fun W => reckon_ok h (m := 1) (e := n) hm (by omega) h1 (fun z => absurd z (by decide)) W
  rw [show ((1 : Nat) : Int) = 1 from rfl] at R
  have c1 : ¬ n < 0 := by omega
  have c2 : ¬ (K : Int) < n := by omega
  clear h h0 h1 hm
  generalize exA f _ L 1 n = RR at *
  go_enter Try.func11, Try.ntmps11
  go_wp2_with fail
  refine (T _).mono ?_
  rintro x w1 ⟨rfl, rfl⟩
  go_wp2_with fail
  refine (R _).mono ?_
  rintro x w1 ⟨rfl, rfl⟩
  go_wp2
  refine bodyPost_ret (v := .tuple #[.int .u64 (RR : Int), .nilIface]) (by simp [results, Try.results11, go_sem]) rfl ⟨rfl, rfl⟩
theorem whole_no {s : Int} (h : Sn s) (m : Int) (w : World) : Calls Try.prog 15 #[.int .u64 m, .int .i64 s] w fun x w' => x = .returned (.tuple #[.int .u64 0, .bool false, .iface 53 (.int .i64 5)]) ∧ w' = w := by
  have T := fun W => most_no h W
  clear h
  go_enter Try.func15, Try.ntmps15
  go_wp2_with fail
  refine (T _).mono ?_
  rintro x w1 ⟨rfl, rfl⟩
  go_wp2
  refine bodyPost_ret (v := .tuple #[.int .u64 0, .bool false, .iface 53 (.int .i64 5)]) (by simp [results, Try.results15, go_sem]) rfl ⟨rfl, rfl⟩
theorem whole_un {s : Int} {f T : Nat} {L : Int} {M K : Nat} (h : Xz s f T L M K) {m : Nat} (hm : M < m) (w : World) : Calls Try.prog 15 #[.int .u64 (m : Int), .int .i64 s] w fun x w' => x = .returned (.tuple #[.int .u64 0, .bool false, .nilIface]) ∧ w' = w := by
  have T := fun W => most_ok h W
  have c : (M : Int) < (m : Int) := by omega
  clear h hm
  go_enter Try.func15, Try.ntmps15
  go_wp2_with fail
  refine (T _).mono ?_
  rintro x w1 ⟨rfl, rfl⟩
  go_wp2
  refine bodyPost_ret (v := .tuple #[.int .u64 0, .bool false, .nilIface]) (by simp [results, Try.results15, go_sem]) rfl ⟨rfl, rfl⟩
theorem whole_yes {s : Int} {f T : Nat} {L : Int} {M K : Nat} (h : Xz s f T L M K) {m : Nat} (hm : m ≤ M) (w : World) : Calls Try.prog 15 #[.int .u64 (m : Int), .int .i64 s] w fun x w' => x = .returned (.tuple #[.int .u64 ((exA f T L m 0 : Nat) : Int), .bool true, .nilIface]) ∧ w' = w := by
  have T := fun W => most_ok h W
  have R := fun W => reckon_ok h (m := m) (e := 0) hm (by omega) (by omega) (fun _ => rfl) W
  have c : ¬ (M : Int) < (m : Int) := by omega
  clear h hm
  generalize exA f _ L m 0 = RR at *
  go_enter Try.func15, Try.ntmps15
  go_wp2_with fail
  refine (T _).mono ?_
  rintro x w1 ⟨rfl, rfl⟩
  go_wp2_with fail
  refine (R _).mono ?_
  rintro x w1 ⟨rfl, rfl⟩
  go_wp2
  refine bodyPost_ret (v := .tuple #[.int .u64 (RR : Int), .bool true, .nilIface]) (by simp [results, Try.results15, go_sem]) rfl ⟨rfl, rfl⟩

theorem x64 : Xz 64 52 2047 (-1074) 9007199254740992 22 := .inr ⟨rfl, rfl, rfl, rfl, rfl, rfl⟩
theorem x32 : Xz 32 23 255 (-149) 16777216 10 := .inl ⟨rfl, rfl, rfl, rfl, rfl, rfl⟩
theorem ex_a : exA 52 2047 (-1074) 123 (-2) = 4608218246714312622 := by decide +kernel
theorem ex_b : exA 52 2047 (-1074) 1 22 = 4936209963552724370 := by decide +kernel
theorem ex_c : exA 23 255 (-149) 1 10 = 1343554297 := by decide +kernel
set_option maxHeartbeats 1000000 in
theorem works_any (w : World) : Calls Try.prog 8 #[] w fun e w' => e = .returned (.bool true) ∧ w' = w := by
  have A := fun W => of_yes x64 (m := 123) (e := -2) (by decide) (by decide) (by decide) (by decide) W
  have B := fun W => of_yes x64 (m := 1) (e := 22) (by decide) (by decide) (by decide) (by decide) W
  have C := fun W => pow_yes x32 (n := 10) (by decide) (by decide) W
  rw [ex_a] at A
  rw [ex_b] at B
  rw [ex_c] at C
  go_enter Try.func8, Try.ntmps8
  go_wp2_with fail
  refine (A _).mono ?_
  rintro x w1 ⟨rfl, rfl⟩
  go_wp2_with fail
  refine (B _).mono ?_
  rintro x w1 ⟨rfl, rfl⟩
  go_wp2_with fail
  refine (C _).mono ?_
  rintro x w1 ⟨rfl, rfl⟩
  go_wp2
  go_ret
  exact ⟨rfl, rfl⟩
end Go.Proofs.Ytfgopmgmmpkbeaa
