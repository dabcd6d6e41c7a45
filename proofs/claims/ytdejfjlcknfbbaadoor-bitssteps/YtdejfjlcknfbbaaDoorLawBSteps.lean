/-
  The law BitsSteps: the next float and the one before of all bits, and the order of every two; or the errors.
-/
import Derived.Test.YtdejfjlcknfbbaaDoorBtF
namespace Go.Proofs.YtdejfjlcknfbbaaDoor
open Go.RowKit

set_option maxRecDepth 100000 in
set_option maxHeartbeats 1000000 in
theorem bsteps_walk {a b s x y n k1 k2 k3 : Int} {V1 V2 V3 : Value}
    (X1 : (∀ W, Calls Tryd.prog 28 #[.int .u64 a, .int .i64 s] W fun e w' => e = .returned (.tuple #[.int .u64 x, V1]) ∧ Below W.heap.size W w')) (X2 : (∀ W, Calls Tryd.prog 29 #[.int .u64 a, .int .i64 s] W fun e w' => e = .returned (.tuple #[.int .u64 x, .int .i64 k1]) ∧ Below W.heap.size W w')) (N1 : (∀ W, ErrT W → Calls Tryd.prog 13 #[V1] W fun e w' => e = .returned (.int .i64 k1) ∧ Below W.heap.size W w'))
    (Y1 : (∀ W, Calls Tryd.prog 30 #[.int .u64 a, .int .i64 s] W fun e w' => e = .returned (.tuple #[.int .u64 y, V2]) ∧ Below W.heap.size W w')) (Y2 : (∀ W, Calls Tryd.prog 31 #[.int .u64 a, .int .i64 s] W fun e w' => e = .returned (.tuple #[.int .u64 y, .int .i64 k2]) ∧ Below W.heap.size W w')) (N2 : (∀ W, ErrT W → Calls Tryd.prog 13 #[V2] W fun e w' => e = .returned (.int .i64 k2) ∧ Below W.heap.size W w'))
    (Z1 : (∀ W, Calls Tryd.prog 32 #[.int .u64 a, .int .u64 b, .int .i64 s] W fun e w' => e = .returned (.tuple #[.int .i64 n, V3]) ∧ Below W.heap.size W w')) (Z2 : (∀ W, Calls Tryd.prog 33 #[.int .u64 a, .int .u64 b, .int .i64 s] W fun e w' => e = .returned (.tuple #[.int .i64 n, .int .i64 k3]) ∧ Below W.heap.size W w')) (N3 : (∀ W, ErrT W → Calls Tryd.prog 13 #[V3] W fun e w' => e = .returned (.int .i64 k3) ∧ Below W.heap.size W w'))
    (w : World) (hE : ErrT w) : Calls Tryd.prog 6 #[.int .u64 a, .int .u64 b, .int .i64 s] w fun e w' => e = .returned (.bool true) ∧ Below w.heap.size w w' := by
  have S := fun W => sure_any W
  have HG : Hid (ErrT w) := hE
  clear hE
  go_enter Tryd.func6, Tryd.ntmps6
  have B0 : Hid (Below w.heap.size w w) := Below.refl _ _
  go_wp2_with fail
  refine (X1 _).mono ?_
  rintro e w1 ⟨rfl, hb⟩
  have B1 : Hid (Below w.heap.size w w1) := B0.out.trans (hb.mono B0.out.size)
  clear hb
  go_wp2_with fail
  refine (X2 _).mono ?_
  rintro e w2 ⟨rfl, hb⟩
  have B2 : Hid (Below w.heap.size w w2) := B1.out.trans (hb.mono B1.out.size)
  clear hb
  go_wp2_with fail
  refine (Y1 _).mono ?_
  rintro e w3 ⟨rfl, hb⟩
  have B3 : Hid (Below w.heap.size w w3) := B2.out.trans (hb.mono B2.out.size)
  clear hb
  go_wp2_with fail
  refine (Y2 _).mono ?_
  rintro e w4 ⟨rfl, hb⟩
  have B4 : Hid (Below w.heap.size w w4) := B3.out.trans (hb.mono B3.out.size)
  clear hb
  go_wp2_with fail
  refine (Z1 _).mono ?_
  rintro e w5 ⟨rfl, hb⟩
  have B5 : Hid (Below w.heap.size w w5) := B4.out.trans (hb.mono B4.out.size)
  clear hb
  go_wp2_with fail
  refine (Z2 _).mono ?_
  rintro e w6 ⟨rfl, hb⟩
  have B6 : Hid (Below w.heap.size w w6) := B5.out.trans (hb.mono B5.out.size)
  clear hb
  go_wp2_with fail
  refine (N1 _ (HG.out.below B6.out HG.out.pos)).mono ?_
  rintro e w7 ⟨rfl, hb⟩
  have B7 : Hid (Below w.heap.size w w7) := B6.out.trans (hb.mono B6.out.size)
  clear hb
  go_wp2_with fail
  refine (N2 _ (HG.out.below B7.out HG.out.pos)).mono ?_
  rintro e w8 ⟨rfl, hb⟩
  have B8 : Hid (Below w.heap.size w w8) := B7.out.trans (hb.mono B7.out.size)
  clear hb
  go_wp2_with fail
  refine (N3 _ (HG.out.below B8.out HG.out.pos)).mono ?_
  rintro e w9 ⟨rfl, hb⟩
  have B9 : Hid (Below w.heap.size w w9) := B8.out.trans (hb.mono B8.out.size)
  clear hb
  go_wp2_with fail
  refine (S _).mono ?_
  rintro e w10 ⟨rfl, hb⟩
  have B10 : Hid (Below w.heap.size w w10) := B9.out.trans (hb.mono B9.out.size)
  clear hb
  go_wp2
  go_ret
  exact ⟨rfl, B10.out⟩

theorem next_both {a : Nat} (ha : a < 18446744073709551616) (s : Int) : ∃ (x k : Int) (V : Value), (∀ W, Calls Tryd.prog 28 #[.int .u64 (a : Int), .int .i64 s] W fun e w' => e = .returned (.tuple #[.int .u64 x, V]) ∧ Below W.heap.size W w') ∧ (∀ W, Calls Tryd.prog 29 #[.int .u64 (a : Int), .int .i64 s] W fun e w' => e = .returned (.tuple #[.int .u64 x, .int .i64 k]) ∧ Below W.heap.size W w') ∧ (∀ W, ErrT W → Calls Tryd.prog 13 #[V] W fun e w' => e = .returned (.int .i64 k) ∧ Below W.heap.size W w') := by
  by_cases h1 : s = 32
  · subst h1
    by_cases h : a < 4294967296
    · rcases cl_cases 2139095040 (mg 2147483648 a) with ⟨p, q⟩ | ⟨p0, p1, q⟩ | ⟨p0, p1, q⟩ | ⟨p1, q⟩
      · have HC := fun W => cls_32 h W
        rw [q] at HC
        have HO := fun W => rof_32 h W
        rw [q] at HO
        have u : (a : Int) + 1 < 18446744073709551616 := by unfold mg at *; omega
        exact ⟨(a : Int) + 1, 0, .nilIface, fun W => next_ok (by decide) (by decide) (by omega) u HC W, toB' fun W => rnext_ok (by decide) (by decide) (by omega) u (fun W => rcheck_32 h W) HO W, fun W _ => num_nil W⟩
      · have HC := fun W => cls_32 h W
        rw [q] at HC
        have HO := fun W => rof_32 h W
        rw [q] at HO
        have u : (a : Int) + 1 < 18446744073709551616 := by unfold mg at *; omega
        exact ⟨(a : Int) + 1, 0, .nilIface, fun W => next_ok (by decide) (by decide) (by omega) u HC W, toB' fun W => rnext_ok (by decide) (by decide) (by omega) u (fun W => rcheck_32 h W) HO W, fun W _ => num_nil W⟩
      · have HC := fun W => cls_32 h W
        rw [q] at HC
        have HO := fun W => rof_32 h W
        rw [q] at HO
        exact ⟨0, 4, _, fun W => next_end HC W, toB' fun W => rnext_end (fun W => rcheck_32 h W) HO W, fun W g => num_errno 4 W g⟩
      · have HC := fun W => cls_32 h W
        rw [q] at HC
        have HO := fun W => rof_32 h W
        rw [q] at HO
        exact ⟨0, 1, _, fun W => next_nan HC W, toB' fun W => rnext_nan (fun W => rcheck_32 h W) HO W, fun W g => num_errno 1 W g⟩
    · have h : 4294967296 ≤ a := by omega
      exact ⟨0, 1, _, fun W => next_err (fun W => cls_big h W) W, toB' fun W => rnext_err (by decide) (fun W => rcheck_big h W) W, fun W g => num_errno 1 W g⟩
  · by_cases h2 : s = 64
    · subst h2
      rcases cl_cases 9218868437227405312 (mg 9223372036854775808 a) with ⟨p, q⟩ | ⟨p0, p1, q⟩ | ⟨p0, p1, q⟩ | ⟨p1, q⟩
      · have HC := fun W => cls_64 ha W
        rw [q] at HC
        have HO := fun W => rof_64 ha W
        rw [q] at HO
        have u : (a : Int) + 1 < 18446744073709551616 := by unfold mg at *; omega
        exact ⟨(a : Int) + 1, 0, .nilIface, fun W => next_ok (by decide) (by decide) (by omega) u HC W, toB' fun W => rnext_ok (by decide) (by decide) (by omega) u (fun W => rcheck_64 _ W) HO W, fun W _ => num_nil W⟩
      · have HC := fun W => cls_64 ha W
        rw [q] at HC
        have HO := fun W => rof_64 ha W
        rw [q] at HO
        have u : (a : Int) + 1 < 18446744073709551616 := by unfold mg at *; omega
        exact ⟨(a : Int) + 1, 0, .nilIface, fun W => next_ok (by decide) (by decide) (by omega) u HC W, toB' fun W => rnext_ok (by decide) (by decide) (by omega) u (fun W => rcheck_64 _ W) HO W, fun W _ => num_nil W⟩
      · have HC := fun W => cls_64 ha W
        rw [q] at HC
        have HO := fun W => rof_64 ha W
        rw [q] at HO
        exact ⟨0, 4, _, fun W => next_end HC W, toB' fun W => rnext_end (fun W => rcheck_64 _ W) HO W, fun W g => num_errno 4 W g⟩
      · have HC := fun W => cls_64 ha W
        rw [q] at HC
        have HO := fun W => rof_64 ha W
        rw [q] at HO
        exact ⟨0, 1, _, fun W => next_nan HC W, toB' fun W => rnext_nan (fun W => rcheck_64 _ W) HO W, fun W g => num_errno 1 W g⟩
    · have h : Sn s := ⟨h1, h2⟩
      exact ⟨0, 5, _, fun W => next_err (fun W => cls_no h _ W) W, toB' fun W => rnext_err (by decide) (fun W => rcheck_no h _ W) W, fun W g => num_errno 5 W g⟩
theorem prev_both {a : Nat} (ha : a < 18446744073709551616) (s : Int) : ∃ (x k : Int) (V : Value), (∀ W, Calls Tryd.prog 30 #[.int .u64 (a : Int), .int .i64 s] W fun e w' => e = .returned (.tuple #[.int .u64 x, V]) ∧ Below W.heap.size W w') ∧ (∀ W, Calls Tryd.prog 31 #[.int .u64 (a : Int), .int .i64 s] W fun e w' => e = .returned (.tuple #[.int .u64 x, .int .i64 k]) ∧ Below W.heap.size W w') ∧ (∀ W, ErrT W → Calls Tryd.prog 13 #[V] W fun e w' => e = .returned (.int .i64 k) ∧ Below W.heap.size W w') := by
  by_cases h1 : s = 32
  · subst h1
    by_cases h : a < 4294967296
    · rcases cl_cases 2139095040 (mg 2147483648 a) with ⟨p, q⟩ | ⟨p0, p1, q⟩ | ⟨p0, p1, q⟩ | ⟨p1, q⟩
      · have HC := fun W => cls_32 h W
        rw [q] at HC
        have HO := fun W => rof_32 h W
        rw [q] at HO
        exact ⟨0, 4, _, fun W => prev_end HC W, toB' fun W => rprev_end (fun W => rcheck_32 h W) HO W, fun W g => num_errno 4 W g⟩
      · have HC := fun W => cls_32 h W
        rw [q] at HC
        have HO := fun W => rof_32 h W
        rw [q] at HO
        have u : 1 ≤ (a : Int) := by unfold mg at *; omega
        exact ⟨(a : Int) - 1, 0, .nilIface, fun W => prev_ok (by decide) (by decide) u (by omega) HC W, toB' fun W => rprev_ok (by decide) (by decide) u (by omega) (fun W => rcheck_32 h W) HO W, fun W _ => num_nil W⟩
      · have HC := fun W => cls_32 h W
        rw [q] at HC
        have HO := fun W => rof_32 h W
        rw [q] at HO
        have u : 1 ≤ (a : Int) := by unfold mg at *; omega
        exact ⟨(a : Int) - 1, 0, .nilIface, fun W => prev_ok (by decide) (by decide) u (by omega) HC W, toB' fun W => rprev_ok (by decide) (by decide) u (by omega) (fun W => rcheck_32 h W) HO W, fun W _ => num_nil W⟩
      · have HC := fun W => cls_32 h W
        rw [q] at HC
        have HO := fun W => rof_32 h W
        rw [q] at HO
        exact ⟨0, 1, _, fun W => prev_nan HC W, toB' fun W => rprev_nan (fun W => rcheck_32 h W) HO W, fun W g => num_errno 1 W g⟩
    · have h : 4294967296 ≤ a := by omega
      exact ⟨0, 1, _, fun W => prev_err (fun W => cls_big h W) W, toB' fun W => rprev_err (by decide) (fun W => rcheck_big h W) W, fun W g => num_errno 1 W g⟩
  · by_cases h2 : s = 64
    · subst h2
      rcases cl_cases 9218868437227405312 (mg 9223372036854775808 a) with ⟨p, q⟩ | ⟨p0, p1, q⟩ | ⟨p0, p1, q⟩ | ⟨p1, q⟩
      · have HC := fun W => cls_64 ha W
        rw [q] at HC
        have HO := fun W => rof_64 ha W
        rw [q] at HO
        exact ⟨0, 4, _, fun W => prev_end HC W, toB' fun W => rprev_end (fun W => rcheck_64 _ W) HO W, fun W g => num_errno 4 W g⟩
      · have HC := fun W => cls_64 ha W
        rw [q] at HC
        have HO := fun W => rof_64 ha W
        rw [q] at HO
        have u : 1 ≤ (a : Int) := by unfold mg at *; omega
        exact ⟨(a : Int) - 1, 0, .nilIface, fun W => prev_ok (by decide) (by decide) u (by omega) HC W, toB' fun W => rprev_ok (by decide) (by decide) u (by omega) (fun W => rcheck_64 _ W) HO W, fun W _ => num_nil W⟩
      · have HC := fun W => cls_64 ha W
        rw [q] at HC
        have HO := fun W => rof_64 ha W
        rw [q] at HO
        have u : 1 ≤ (a : Int) := by unfold mg at *; omega
        exact ⟨(a : Int) - 1, 0, .nilIface, fun W => prev_ok (by decide) (by decide) u (by omega) HC W, toB' fun W => rprev_ok (by decide) (by decide) u (by omega) (fun W => rcheck_64 _ W) HO W, fun W _ => num_nil W⟩
      · have HC := fun W => cls_64 ha W
        rw [q] at HC
        have HO := fun W => rof_64 ha W
        rw [q] at HO
        exact ⟨0, 1, _, fun W => prev_nan HC W, toB' fun W => rprev_nan (fun W => rcheck_64 _ W) HO W, fun W g => num_errno 1 W g⟩
    · have h : Sn s := ⟨h1, h2⟩
      exact ⟨0, 5, _, fun W => prev_err (fun W => cls_no h _ W) W, toB' fun W => rprev_err (by decide) (fun W => rcheck_no h _ W) W, fun W g => num_errno 5 W g⟩
theorem compare_both {a b : Nat} (ha : a < 18446744073709551616) (hb : b < 18446744073709551616) (s : Int) : ∃ (n k : Int) (V : Value), (∀ W, Calls Tryd.prog 32 #[.int .u64 (a : Int), .int .u64 (b : Int), .int .i64 s] W fun e w' => e = .returned (.tuple #[.int .i64 n, V]) ∧ Below W.heap.size W w') ∧ (∀ W, Calls Tryd.prog 33 #[.int .u64 (a : Int), .int .u64 (b : Int), .int .i64 s] W fun e w' => e = .returned (.tuple #[.int .i64 n, .int .i64 k]) ∧ Below W.heap.size W w') ∧ (∀ W, ErrT W → Calls Tryd.prog 13 #[V] W fun e w' => e = .returned (.int .i64 k) ∧ Below W.heap.size W w') := by
  by_cases h1 : s = 32
  · subst h1
    by_cases h : a < 4294967296
    · by_cases h' : b < 4294967296
      · by_cases ka : cl 2139095040 (mg 2147483648 a) = 4
        · exact ⟨2, 0, .nilIface, fun W => compare_nan1_32 h h' ka W, toB' fun W => rcompare_nan1_32 h h' ka W, fun W _ => num_nil W⟩
        · have ka' : (cl 2139095040 (mg 2147483648 a) == 4) = false := by simpa using ka
          by_cases kb : cl 2139095040 (mg 2147483648 b) = 4
          · exact ⟨2, 0, .nilIface, fun W => compare_nan2_32 h h' ka' kb W, toB' fun W => rcompare_nan2_32 h h' ka' kb W, fun W _ => num_nil W⟩
          · have kb' : (cl 2139095040 (mg 2147483648 b) == 4) = false := by simpa using kb
            exact ⟨_, 0, .nilIface, fun W => compare_ok_32 h h' ka' kb' W, toB' fun W => rcompare_ok_32 h h' ka' kb' W, fun W _ => num_nil W⟩
      · have h2 : 4294967296 ≤ b := by omega
        exact ⟨0, 1, _, fun W => compare_big (.inr h2) W, toB' fun W => rcompare_big3 h h2 W, fun W g => num_errno 1 W g⟩
    · have h2 : 4294967296 ≤ a := by omega
      by_cases h' : b < 4294967296
      · exact ⟨0, 1, _, fun W => compare_big (.inl h2) W, toB' fun W => rcompare_big2 h2 h' W, fun W g => num_errno 1 W g⟩
      · exact ⟨0, 1, _, fun W => compare_big (.inl h2) W, toB' fun W => rcompare_big1 h2 (by omega) W, fun W g => num_errno 1 W g⟩
  · by_cases h2 : s = 64
    · subst h2
      by_cases ka : cl 9218868437227405312 (mg 9223372036854775808 a) = 4
      · exact ⟨2, 0, .nilIface, fun W => compare_nan1_64 ha hb ka W, toB' fun W => rcompare_nan1_64 ha hb ka W, fun W _ => num_nil W⟩
      · have ka' : (cl 9218868437227405312 (mg 9223372036854775808 a) == 4) = false := by simpa using ka
        by_cases kb : cl 9218868437227405312 (mg 9223372036854775808 b) = 4
        · exact ⟨2, 0, .nilIface, fun W => compare_nan2_64 ha hb ka' kb W, toB' fun W => rcompare_nan2_64 ha hb ka' kb W, fun W _ => num_nil W⟩
        · have kb' : (cl 9218868437227405312 (mg 9223372036854775808 b) == 4) = false := by simpa using kb
          exact ⟨_, 0, .nilIface, fun W => compare_ok_64 ha hb ka' kb' W, toB' fun W => rcompare_ok_64 ha hb ka' kb' W, fun W _ => num_nil W⟩
    · have h : Sn s := ⟨h1, h2⟩
      exact ⟨0, 5, _, fun W => compare_no h a b W, toB' fun W => rcompare_no h a b W, fun W g => num_errno 5 W g⟩
theorem law_bsteps (a : Nat) (ha : a < 18446744073709551616) (b : Nat) (hb : b < 18446744073709551616) (s : Int) (w : World) (hE : ErrT w) :
    Calls Tryd.prog 6 #[.int .u64 (a : Int), .int .u64 (b : Int), .int .i64 s] w fun e w' => e = .returned (.bool true) ∧ Below w.heap.size w w' := by
  obtain ⟨x, k1, V1, X1, X2, N1⟩ := next_both ha s
  obtain ⟨y, k2, V2, Y1, Y2, N2⟩ := prev_both ha s
  obtain ⟨n, k3, V3, Z1, Z2, N3⟩ := compare_both ha hb s
  exact bsteps_walk X1 X2 N1 Y1 Y2 N2 Z1 Z2 N3 w hE
end Go.Proofs.YtdejfjlcknfbbaaDoor
