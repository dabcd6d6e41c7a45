/-
  bits' and the document's Next, Prev, Compare, by what the calls inside answer.
-/
import Derived.Test.YtdejfjlcknfbbaaDoorBtL
namespace Go.Proofs.YtdejfjlcknfbbaaDoor
open Go.RowKit

/-- The order of two numbers as a number; a float's place among all. -/
def cmpI (x y : Int) : Int := if x < y then -1 else if y < x then 1 else 0
def rk (g b : Nat) : Int := if ng g b then -(mg g b : Int) else (mg g b : Int)
theorem rk_bd {g b : Nat} (h : 0 < g) (hg : g ≤ 9223372036854775808) : -9223372036854775808 < rk g b ∧ rk g b < 9223372036854775808 := by
  have := mg_lt h b
  unfold rk
  split <;> omega

set_option maxRecDepth 100000 in
set_option maxHeartbeats 1000000 in
theorem isNaN_64 (x : Int) (w : World) : Calls Tryd.prog 68 #[.int .i64 x] w fun e w' => e = .returned (.bool false) ∧ w' = w := by
  go_enter Tryd.func68, Tryd.ntmps68
  go_wp2
  go_ret
  simp
set_option maxRecDepth 100000 in
set_option maxHeartbeats 1000000 in
theorem cmp_64 (x y : Int) (w : World) : Calls Tryd.prog 53 #[.int .i64 x, .int .i64 y] w fun e w' => e = .returned (.int .i64 (cmpI x y)) ∧ w' = w := by
  have H1 := fun W => isNaN_64 x W
  have H2 := fun W => isNaN_64 y W
  have Q : Hid (cmpI x y = if x < y then -1 else if y < x then 1 else 0) := rfl
  rcases Int.lt_trichotomy x y with h | h | h
  · rw [Q.out, if_pos h]
    go_enter Tryd.func53, Tryd.ntmps53
    go_wp2_with fail
    refine (H1 _).mono ?_
    rintro e w ⟨rfl, rfl⟩
    go_wp2_with fail
    refine (H2 _).mono ?_
    rintro e w ⟨rfl, rfl⟩
    go_wp2
    go_ret
    exact ⟨rfl, rfl⟩
  · subst h
    rw [Q.out, if_neg (Int.lt_irrefl x), if_neg (Int.lt_irrefl x)]
    clear Q
    go_enter Tryd.func53, Tryd.ntmps53
    go_wp2_with fail
    refine (H1 _).mono ?_
    rintro e w ⟨rfl, rfl⟩
    go_wp2_with fail
    refine (H2 _).mono ?_
    rintro e w ⟨rfl, rfl⟩
    go_wp2
    go_ret
    exact ⟨rfl, rfl⟩
  · have h' : ¬ x < y := by omega
    rw [Q.out, if_neg h', if_pos h]
    go_enter Tryd.func53, Tryd.ntmps53
    go_wp2_with fail
    refine (H1 _).mono ?_
    rintro e w ⟨rfl, rfl⟩
    go_wp2_with fail
    refine (H2 _).mono ?_
    rintro e w ⟨rfl, rfl⟩
    go_wp2
    go_ret
    exact ⟨rfl, rfl⟩
set_option maxRecDepth 100000 in
set_option maxHeartbeats 1000000 in
theorem rank_32 {b : Nat} (h : b < 4294967296) (w : World) : Calls Tryd.prog 54 #[.agg #[.int .u64 2147483648, .int .u64 2139095040, .int .i64 23, .int .i64 (-149)], .int .u64 (b : Int)] w fun e w' => e = .returned (.int .i64 (rk 2147483648 b)) ∧ Below w.heap.size w w' := by
  have HM := fun W => magnitude_32 h W
  have HN := fun W => negative_32 h W
  have hl := mg_lt (g := 2147483648) (by decide) b
  unfold rk
  generalize mg 2147483648 b = x at *
  generalize ng 2147483648 b = c at *
  clear h
  cases c
  all_goals
    simp only [if_true, if_false, Bool.false_eq_true]
    go_enter Tryd.func54, Tryd.ntmps54
    go_wp2_with fail
    refine (HM _).mono ?_
    rintro e w1 ⟨rfl, hb⟩
    have T : Hid (ShB w w1 _ _ _ _) := (ShB.start w (.int .u64 2147483648) (.int .u64 2139095040) (.int .i64 23) (.int .i64 (-149)) 65).step hb
    clear hb
    obtain ⟨_, _, a0, a1, a2, a3⟩ := T.out
    go_wp2_with fail
    refine (HN _).mono ?_
    rintro e w2 ⟨rfl, hb⟩
    have T2 : Hid (ShB w w2 _ _ _ _) := T.out.step hb
    clear hb
    go_wp2
    go_ret
    exact ⟨rfl, T2.out.bel⟩
set_option maxRecDepth 100000 in
set_option maxHeartbeats 1000000 in
theorem rank_64 {b : Nat} (h : b < 18446744073709551616) (w : World) : Calls Tryd.prog 54 #[.agg #[.int .u64 9223372036854775808, .int .u64 9218868437227405312, .int .i64 52, .int .i64 (-1074)], .int .u64 (b : Int)] w fun e w' => e = .returned (.int .i64 (rk 9223372036854775808 b)) ∧ Below w.heap.size w w' := by
  have HM := fun W => magnitude_64 h W
  have HN := fun W => negative_64 h W
  have hl := mg_lt (g := 9223372036854775808) (by decide) b
  unfold rk
  generalize mg 9223372036854775808 b = x at *
  generalize ng 9223372036854775808 b = c at *
  clear h
  cases c
  all_goals
    simp only [if_true, if_false, Bool.false_eq_true]
    go_enter Tryd.func54, Tryd.ntmps54
    go_wp2_with fail
    refine (HM _).mono ?_
    rintro e w1 ⟨rfl, hb⟩
    have T : Hid (ShB w w1 _ _ _ _) := (ShB.start w (.int .u64 9223372036854775808) (.int .u64 9218868437227405312) (.int .i64 52) (.int .i64 (-1074)) 65).step hb
    clear hb
    obtain ⟨_, _, a0, a1, a2, a3⟩ := T.out
    go_wp2_with fail
    refine (HN _).mono ?_
    rintro e w2 ⟨rfl, hb⟩
    have T2 : Hid (ShB w w2 _ _ _ _) := T.out.step hb
    clear hb
    go_wp2
    go_ret
    exact ⟨rfl, T2.out.bel⟩
set_option maxRecDepth 100000 in
set_option maxHeartbeats 1000000 in
theorem next_err {b s : Int} {k : Int} (HC : ∀ W, Calls Tryd.prog 11 #[.int .u64 b, .int .i64 s] W fun e w' => e = .returned (.tuple #[.int .i64 0, .iface 70 (.int .i64 k)]) ∧ Below W.heap.size W w') (w : World) : Calls Tryd.prog 28 #[.int .u64 b, .int .i64 s] w fun e w' => e = .returned (.tuple #[.int .u64 0, .iface 70 (.int .i64 k)]) ∧ Below w.heap.size w w' := by
  go_enter Tryd.func28, Tryd.ntmps28
  go_wp2_with fail
  refine (HC _).mono ?_
  rintro e w1 ⟨rfl, hb⟩
  have B : Hid (Below w.heap.size w w1) := hb
  clear hb
  go_wp2
  go_ret2
  exact ⟨rfl, B.out⟩
set_option maxRecDepth 100000 in
set_option maxHeartbeats 1000000 in
theorem next_nan {b s : Int}  (HC : ∀ W, Calls Tryd.prog 11 #[.int .u64 b, .int .i64 s] W fun e w' => e = .returned (.tuple #[.int .i64 4, .nilIface]) ∧ Below W.heap.size W w') (w : World) : Calls Tryd.prog 28 #[.int .u64 b, .int .i64 s] w fun e w' => e = .returned (.tuple #[.int .u64 0, .iface 70 (.int .i64 1)]) ∧ Below w.heap.size w w' := by
  go_enter Tryd.func28, Tryd.ntmps28
  go_wp2_with fail
  refine (HC _).mono ?_
  rintro e w1 ⟨rfl, hb⟩
  have B : Hid (Below w.heap.size w w1) := hb
  clear hb
  go_wp2
  go_ret2
  exact ⟨rfl, B.out⟩
set_option maxRecDepth 100000 in
set_option maxHeartbeats 1000000 in
theorem next_end {b s : Int}  (HC : ∀ W, Calls Tryd.prog 11 #[.int .u64 b, .int .i64 s] W fun e w' => e = .returned (.tuple #[.int .i64 3, .nilIface]) ∧ Below W.heap.size W w') (w : World) : Calls Tryd.prog 28 #[.int .u64 b, .int .i64 s] w fun e w' => e = .returned (.tuple #[.int .u64 0, .iface 70 (.int .i64 4)]) ∧ Below w.heap.size w w' := by
  go_enter Tryd.func28, Tryd.ntmps28
  go_wp2_with fail
  refine (HC _).mono ?_
  rintro e w1 ⟨rfl, hb⟩
  have B : Hid (Below w.heap.size w w1) := hb
  clear hb
  go_wp2
  go_ret2
  exact ⟨rfl, B.out⟩
set_option maxRecDepth 100000 in
set_option maxHeartbeats 1000000 in
theorem next_ok {b s : Int} {c : Int} (q1 : (c == 4) = false) (q2 : (c == 3) = false) (h0 : 0 ≤ b) (h1 : b + 1 < 18446744073709551616) (HC : ∀ W, Calls Tryd.prog 11 #[.int .u64 b, .int .i64 s] W fun e w' => e = .returned (.tuple #[.int .i64 c, .nilIface]) ∧ Below W.heap.size W w') (w : World) : Calls Tryd.prog 28 #[.int .u64 b, .int .i64 s] w fun e w' => e = .returned (.tuple #[.int .u64 (b + 1), .nilIface]) ∧ Below w.heap.size w w' := by
  go_enter Tryd.func28, Tryd.ntmps28
  go_wp2_with fail
  refine (HC _).mono ?_
  rintro e w1 ⟨rfl, hb⟩
  have B : Hid (Below w.heap.size w w1) := hb
  clear hb
  go_wp2
  go_ret2
  exact ⟨rfl, B.out⟩
set_option maxRecDepth 100000 in
set_option maxHeartbeats 1000000 in
theorem rnext_err {b s : Int} {k : Int} (q : (k != 0) = true) (HK : ∀ W, Calls Tryd.prog 15 #[.int .u64 b, .int .i64 s] W fun e w' => e = .returned (.int .i64 k) ∧ w' = W) (w : World) : Calls Tryd.prog 29 #[.int .u64 b, .int .i64 s] w fun e w' => e = .returned (.tuple #[.int .u64 0, .int .i64 k]) ∧ w' = w := by
  go_enter Tryd.func29, Tryd.ntmps29
  go_wp2_with fail
  refine (HK _).mono ?_
  rintro e w ⟨rfl, rfl⟩
  go_wp2
  go_ret2
  exact ⟨rfl, rfl⟩
set_option maxRecDepth 100000 in
set_option maxHeartbeats 1000000 in
theorem rnext_nan {b s : Int} (HK : ∀ W, Calls Tryd.prog 15 #[.int .u64 b, .int .i64 s] W fun e w' => e = .returned (.int .i64 0) ∧ w' = W) (HO : ∀ W, Calls Tryd.prog 41 #[.int .u64 b, .int .i64 s] W fun e w' => e = .returned (.int .i64 4) ∧ w' = W) (w : World) : Calls Tryd.prog 29 #[.int .u64 b, .int .i64 s] w fun e w' => e = .returned (.tuple #[.int .u64 0, .int .i64 1]) ∧ w' = w := by
  go_enter Tryd.func29, Tryd.ntmps29
  go_wp2_with fail
  refine (HK _).mono ?_
  rintro e w ⟨rfl, rfl⟩
  go_wp2_with fail
  refine (HO _).mono ?_
  rintro e w ⟨rfl, rfl⟩
  go_wp2
  go_ret2
  exact ⟨rfl, rfl⟩
set_option maxRecDepth 100000 in
set_option maxHeartbeats 1000000 in
theorem rnext_end {b s : Int} (HK : ∀ W, Calls Tryd.prog 15 #[.int .u64 b, .int .i64 s] W fun e w' => e = .returned (.int .i64 0) ∧ w' = W) (HO : ∀ W, Calls Tryd.prog 41 #[.int .u64 b, .int .i64 s] W fun e w' => e = .returned (.int .i64 3) ∧ w' = W) (w : World) : Calls Tryd.prog 29 #[.int .u64 b, .int .i64 s] w fun e w' => e = .returned (.tuple #[.int .u64 0, .int .i64 4]) ∧ w' = w := by
  go_enter Tryd.func29, Tryd.ntmps29
  go_wp2_with fail
  refine (HK _).mono ?_
  rintro e w ⟨rfl, rfl⟩
  go_wp2_with fail
  refine (HO _).mono ?_
  rintro e w ⟨rfl, rfl⟩
  go_wp2_with fail
  refine (HO _).mono ?_
  rintro e w ⟨rfl, rfl⟩
  go_wp2
  go_ret2
  exact ⟨rfl, rfl⟩
set_option maxRecDepth 100000 in
set_option maxHeartbeats 1000000 in
theorem rnext_ok {b s : Int} {c : Int} (q1 : (c == 4) = false) (q2 : (c == 3) = false) (h0 : 0 ≤ b) (h1 : b + 1 < 18446744073709551616) (HK : ∀ W, Calls Tryd.prog 15 #[.int .u64 b, .int .i64 s] W fun e w' => e = .returned (.int .i64 0) ∧ w' = W) (HO : ∀ W, Calls Tryd.prog 41 #[.int .u64 b, .int .i64 s] W fun e w' => e = .returned (.int .i64 c) ∧ w' = W) (w : World) : Calls Tryd.prog 29 #[.int .u64 b, .int .i64 s] w fun e w' => e = .returned (.tuple #[.int .u64 (b + 1), .int .i64 0]) ∧ w' = w := by
  go_enter Tryd.func29, Tryd.ntmps29
  go_wp2_with fail
  refine (HK _).mono ?_
  rintro e w ⟨rfl, rfl⟩
  go_wp2_with fail
  refine (HO _).mono ?_
  rintro e w ⟨rfl, rfl⟩
  go_wp2_with fail
  refine (HO _).mono ?_
  rintro e w ⟨rfl, rfl⟩
  go_wp2
  go_ret2
  exact ⟨rfl, rfl⟩
set_option maxRecDepth 100000 in
set_option maxHeartbeats 1000000 in
theorem prev_err {b s : Int} {k : Int} (HC : ∀ W, Calls Tryd.prog 11 #[.int .u64 b, .int .i64 s] W fun e w' => e = .returned (.tuple #[.int .i64 0, .iface 70 (.int .i64 k)]) ∧ Below W.heap.size W w') (w : World) : Calls Tryd.prog 30 #[.int .u64 b, .int .i64 s] w fun e w' => e = .returned (.tuple #[.int .u64 0, .iface 70 (.int .i64 k)]) ∧ Below w.heap.size w w' := by
  go_enter Tryd.func30, Tryd.ntmps30
  go_wp2_with fail
  refine (HC _).mono ?_
  rintro e w1 ⟨rfl, hb⟩
  have B : Hid (Below w.heap.size w w1) := hb
  clear hb
  go_wp2
  go_ret2
  exact ⟨rfl, B.out⟩
set_option maxRecDepth 100000 in
set_option maxHeartbeats 1000000 in
theorem prev_nan {b s : Int}  (HC : ∀ W, Calls Tryd.prog 11 #[.int .u64 b, .int .i64 s] W fun e w' => e = .returned (.tuple #[.int .i64 4, .nilIface]) ∧ Below W.heap.size W w') (w : World) : Calls Tryd.prog 30 #[.int .u64 b, .int .i64 s] w fun e w' => e = .returned (.tuple #[.int .u64 0, .iface 70 (.int .i64 1)]) ∧ Below w.heap.size w w' := by
  go_enter Tryd.func30, Tryd.ntmps30
  go_wp2_with fail
  refine (HC _).mono ?_
  rintro e w1 ⟨rfl, hb⟩
  have B : Hid (Below w.heap.size w w1) := hb
  clear hb
  go_wp2
  go_ret2
  exact ⟨rfl, B.out⟩
set_option maxRecDepth 100000 in
set_option maxHeartbeats 1000000 in
theorem prev_end {b s : Int}  (HC : ∀ W, Calls Tryd.prog 11 #[.int .u64 b, .int .i64 s] W fun e w' => e = .returned (.tuple #[.int .i64 1, .nilIface]) ∧ Below W.heap.size W w') (w : World) : Calls Tryd.prog 30 #[.int .u64 b, .int .i64 s] w fun e w' => e = .returned (.tuple #[.int .u64 0, .iface 70 (.int .i64 4)]) ∧ Below w.heap.size w w' := by
  go_enter Tryd.func30, Tryd.ntmps30
  go_wp2_with fail
  refine (HC _).mono ?_
  rintro e w1 ⟨rfl, hb⟩
  have B : Hid (Below w.heap.size w w1) := hb
  clear hb
  go_wp2
  go_ret2
  exact ⟨rfl, B.out⟩
set_option maxRecDepth 100000 in
set_option maxHeartbeats 1000000 in
theorem prev_ok {b s : Int} {c : Int} (q1 : (c == 4) = false) (q2 : (c == 1) = false) (h0 : 1 ≤ b) (h1 : b < 18446744073709551616) (HC : ∀ W, Calls Tryd.prog 11 #[.int .u64 b, .int .i64 s] W fun e w' => e = .returned (.tuple #[.int .i64 c, .nilIface]) ∧ Below W.heap.size W w') (w : World) : Calls Tryd.prog 30 #[.int .u64 b, .int .i64 s] w fun e w' => e = .returned (.tuple #[.int .u64 (b - 1), .nilIface]) ∧ Below w.heap.size w w' := by
  go_enter Tryd.func30, Tryd.ntmps30
  go_wp2_with fail
  refine (HC _).mono ?_
  rintro e w1 ⟨rfl, hb⟩
  have B : Hid (Below w.heap.size w w1) := hb
  clear hb
  go_wp2
  go_ret2
  exact ⟨rfl, B.out⟩
set_option maxRecDepth 100000 in
set_option maxHeartbeats 1000000 in
theorem rprev_err {b s : Int} {k : Int} (q : (k != 0) = true) (HK : ∀ W, Calls Tryd.prog 15 #[.int .u64 b, .int .i64 s] W fun e w' => e = .returned (.int .i64 k) ∧ w' = W) (w : World) : Calls Tryd.prog 31 #[.int .u64 b, .int .i64 s] w fun e w' => e = .returned (.tuple #[.int .u64 0, .int .i64 k]) ∧ w' = w := by
  go_enter Tryd.func31, Tryd.ntmps31
  go_wp2_with fail
  refine (HK _).mono ?_
  rintro e w ⟨rfl, rfl⟩
  go_wp2
  go_ret2
  exact ⟨rfl, rfl⟩
set_option maxRecDepth 100000 in
set_option maxHeartbeats 1000000 in
theorem rprev_nan {b s : Int} (HK : ∀ W, Calls Tryd.prog 15 #[.int .u64 b, .int .i64 s] W fun e w' => e = .returned (.int .i64 0) ∧ w' = W) (HO : ∀ W, Calls Tryd.prog 41 #[.int .u64 b, .int .i64 s] W fun e w' => e = .returned (.int .i64 4) ∧ w' = W) (w : World) : Calls Tryd.prog 31 #[.int .u64 b, .int .i64 s] w fun e w' => e = .returned (.tuple #[.int .u64 0, .int .i64 1]) ∧ w' = w := by
  go_enter Tryd.func31, Tryd.ntmps31
  go_wp2_with fail
  refine (HK _).mono ?_
  rintro e w ⟨rfl, rfl⟩
  go_wp2_with fail
  refine (HO _).mono ?_
  rintro e w ⟨rfl, rfl⟩
  go_wp2
  go_ret2
  exact ⟨rfl, rfl⟩
set_option maxRecDepth 100000 in
set_option maxHeartbeats 1000000 in
theorem rprev_end {b s : Int} (HK : ∀ W, Calls Tryd.prog 15 #[.int .u64 b, .int .i64 s] W fun e w' => e = .returned (.int .i64 0) ∧ w' = W) (HO : ∀ W, Calls Tryd.prog 41 #[.int .u64 b, .int .i64 s] W fun e w' => e = .returned (.int .i64 1) ∧ w' = W) (w : World) : Calls Tryd.prog 31 #[.int .u64 b, .int .i64 s] w fun e w' => e = .returned (.tuple #[.int .u64 0, .int .i64 4]) ∧ w' = w := by
  go_enter Tryd.func31, Tryd.ntmps31
  go_wp2_with fail
  refine (HK _).mono ?_
  rintro e w ⟨rfl, rfl⟩
  go_wp2_with fail
  refine (HO _).mono ?_
  rintro e w ⟨rfl, rfl⟩
  go_wp2_with fail
  refine (HO _).mono ?_
  rintro e w ⟨rfl, rfl⟩
  go_wp2
  go_ret2
  exact ⟨rfl, rfl⟩
set_option maxRecDepth 100000 in
set_option maxHeartbeats 1000000 in
theorem rprev_ok {b s : Int} {c : Int} (q1 : (c == 4) = false) (q2 : (c == 1) = false) (h0 : 1 ≤ b) (h1 : b < 18446744073709551616) (HK : ∀ W, Calls Tryd.prog 15 #[.int .u64 b, .int .i64 s] W fun e w' => e = .returned (.int .i64 0) ∧ w' = W) (HO : ∀ W, Calls Tryd.prog 41 #[.int .u64 b, .int .i64 s] W fun e w' => e = .returned (.int .i64 c) ∧ w' = W) (w : World) : Calls Tryd.prog 31 #[.int .u64 b, .int .i64 s] w fun e w' => e = .returned (.tuple #[.int .u64 (b - 1), .int .i64 0]) ∧ w' = w := by
  go_enter Tryd.func31, Tryd.ntmps31
  go_wp2_with fail
  refine (HK _).mono ?_
  rintro e w ⟨rfl, rfl⟩
  go_wp2_with fail
  refine (HO _).mono ?_
  rintro e w ⟨rfl, rfl⟩
  go_wp2_with fail
  refine (HO _).mono ?_
  rintro e w ⟨rfl, rfl⟩
  go_wp2
  go_ret2
  exact ⟨rfl, rfl⟩
end Go.Proofs.YtdejfjlcknfbbaaDoor
