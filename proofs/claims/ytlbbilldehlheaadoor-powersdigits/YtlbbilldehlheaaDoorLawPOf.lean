/-
  The statement PowersOf: what its walk meets, and that it answers true for every exponent.
-/
import Derived.Test.YtlbbilldehlheaaDoorPwX
import Derived.Test.YtlbbilldehlheaaDoorErrNum
namespace Go.Proofs.YtlbbilldehlheaaDoor
open Go.RowKit

theorem toB {P : Program} {f : FuncId} {a : Array Value} {W : World} {x : Ending} (h : Calls P f a W fun e w' => e = x ∧ w' = W) : Calls P f a W fun e w' => e = x ∧ Below W.heap.size W w' :=
  h.mono fun e w' q => ⟨q.1, by rw [q.2]; exact Below.refl _ _⟩
theorem lnum_any (k : Nat) (w : World) (hg : ErrT w) : Calls Tryd.prog 8 #[errV k] w fun e w' => e = .returned (.int .i64 (k : Int)) ∧ Below w.heap.size w w' := by
  rcases k with _ | k
  · exact num_nil w
  · exact num_errno _ w hg
theorem pw_one : Pw 1 (10 * 2 ^ 124) (-124) := (pw_in (k := 1) (d := 124) (M := 10 * 2 ^ 124) rfl (by decide) (by decide)).1
theorem of_one (w : World) (hT : Tab w) : Calls Tryd.prog 6 #[.int .i64 1] w fun e w' => e = .returned (.tuple #[.agg #[.int .u64 11529215046068469760, .int .u64 0, .int .i64 (-124), .bool true], .nilIface]) ∧ Below w.heap.size w w' := by
  refine (of_yes 1 (by decide) (by decide) w hT).mono ?_
  rintro e w' ⟨M, E, rfl, pw, b⟩
  obtain ⟨rfl, rfl⟩ := pw.uniq pw_one
  refine ⟨?_, b⟩
  unfold pwV
  rw [show hiW (10 * 2 ^ 124) = 11529215046068469760 from by decide +kernel, show loW (10 * 2 ^ 124) = 0 from by decide +kernel, show decide ((0 : Int) ≤ 1 ∧ (1 : Int) ≤ 55) = true from by decide]
theorem ten_three (w : World) : Calls Tryd.prog 14 #[.int .i64 3] w fun e w' => e = .returned (.tuple #[.int .u64 1000, .nilIface]) ∧ w' = w := by
  have h := ten_call 3 w
  rw [show wpX 10 19 3 = 1000 from by decide, show wpE 19 3 = 0 from by decide] at h
  exact h

set_option maxRecDepth 100000 in
set_option maxHeartbeats 1000000 in
theorem sure13 (w : World) (hT : Tab w) : Calls Tryd.prog 9 #[] w fun e w' => e = .returned (.bool true) ∧ Below w.heap.size w w' := by
  have O := of_one w hT
  have T := fun W => ten_three W
  go_enter Tryd.func9, Tryd.ntmps9
  go_wp2_with fail
  refine O.mono ?_
  rintro e w1 ⟨rfl, b1⟩
  have B1 : Hid (Below w.heap.size w w1) := b1
  have X1 : Hid (FlB (w1.alloc (.cells #[.int .u64 11529215046068469760, .int .u64 0, .int .i64 (-124), .bool true] 26)) w1.heap.size _ _ _ _) := FlB.new w1 _ _ _ _ _
  clear b1 O
  go_wp2_with fail
  refine (T _).mono ?_
  rintro e w2 ⟨rfl, hw2⟩
  subst hw2
  clear T
  obtain ⟨_, a0, a1, a2, a3, _, _, _, _⟩ := X1.out
  go_wp2
  go_ret
  exact ⟨rfl, B1.out.alloc B1.out.size _⟩

theorem pw_exists (x : Int) : ∃ M E, Pw x M E := by
  rcases Int.lt_or_le x 0 with c | c
  · obtain ⟨n, hn⟩ : ∃ n : Nat, x = -(n : Int) := ⟨(-x).toNat, by omega⟩
    subst hn
    exact ⟨_, _, (fraction_pw (by omega) rfl).2⟩
  · obtain ⟨n, hn⟩ : ∃ n : Nat, x = (n : Int) := ⟨x.toNat, by omega⟩
    subst hn
    exact ⟨_, _, (whole_pw rfl rfl rfl).2.2.2.2.1⟩
/-- Both calls answer the same power, or both the error. -/
theorem of_both (x : Int) : ∃ (h l E : Int) (X : Bool) (k : Nat), (∀ w, Tab w → Calls Tryd.prog 6 #[.int .i64 x] w fun e v => e = .returned (.tuple #[.agg #[.int .u64 h, .int .u64 l, .int .i64 E, .bool X], errV k]) ∧ Below w.heap.size w v) ∧
    (∀ w, Calls Tryd.prog 7 #[.int .i64 x] w fun e v => e = .returned (.tuple #[.agg #[.int .u64 h, .int .u64 l, .int .i64 E, .bool X], .int .i64 (k : Int)]) ∧ Below w.heap.size w v) := by
  by_cases c : x < -400 ∨ 400 < x
  · exact ⟨0, 0, 0, false, 1, fun w _ => of_no x c w, fun w => rof_no x c w⟩
  · obtain ⟨M, E, pw⟩ := pw_exists x
    refine ⟨hiW M, loW M, E, decide (0 ≤ x ∧ x ≤ 55), 0, fun w hT => ?_, fun w => ?_⟩
    · refine (of_yes x (by omega) (by omega) w hT).mono ?_
      rintro e w' ⟨M', E', rfl, pw', b⟩
      obtain ⟨rfl, rfl⟩ := pw.uniq pw'
      exact ⟨rfl, b⟩
    · refine (rof_yes x (by omega) (by omega) w).mono ?_
      rintro e w' ⟨M', E', rfl, pw', b⟩
      obtain ⟨rfl, rfl⟩ := pw.uniq pw'
      exact ⟨rfl, b⟩

set_option maxRecDepth 100000 in
set_option maxHeartbeats 2000000 in
theorem law_of (x : Int) (w : World) (hT : Tab w) (hg : ErrT w) : Calls Tryd.prog 3 #[.int .i64 x] w fun e w' => e = .returned (.bool true) ∧ Below w.heap.size w w' := by
  obtain ⟨h, l, E, X, k, P, R⟩ := of_both x
  have HG : Hid (Tab w ∧ ErrT w) := ⟨hT, hg⟩
  clear hT hg
  go_enter Tryd.func3, Tryd.ntmps3
  go_wp2_with fail
  refine (P _ HG.out.1).mono ?_
  rintro e w1 ⟨rfl, b1⟩
  have B1 : Hid (Below w.heap.size w (w1.alloc (.cells #[.int .u64 h, .int .u64 l, .int .i64 E, .bool X] 26))) := b1.alloc b1.size _
  have X1 : Hid (FlB (w1.alloc (.cells #[.int .u64 h, .int .u64 l, .int .i64 E, .bool X] 26)) w1.heap.size _ _ _ _) := FlB.new w1 _ _ _ _ _
  clear b1 P
  generalize hr : errV k = er
  go_wp2_with fail
  refine (R _).mono ?_
  rintro e w2 ⟨rfl, b2⟩
  have B2 : Hid (Below w.heap.size w (w2.alloc (.cells #[.int .u64 h, .int .u64 l, .int .i64 E, .bool X] 31))) := (B1.out.trans (b2.mono B1.out.size)).alloc (Nat.le_trans B1.out.size b2.size) _
  have X2 : Hid (FlB (w2.alloc (.cells #[.int .u64 h, .int .u64 l, .int .i64 E, .bool X] 31)) w1.heap.size _ _ _ _) := (X1.out.step b2).al _
  have Y2 : Hid (FlB (w2.alloc (.cells #[.int .u64 h, .int .u64 l, .int .i64 E, .bool X] 31)) w2.heap.size _ _ _ _) := FlB.new w2 _ _ _ _ _
  have N := lnum_any k (w2.alloc (.cells #[.int .u64 h, .int .u64 l, .int .i64 E, .bool X] 31)) (HG.out.2.below B2.out HG.out.2.pos)
  rw [hr] at N
  clear b2 R B1 X1 hr
  obtain ⟨_, a0, a1, a2, a3, _, _, _, _⟩ := X2.out
  obtain ⟨_, c0, c1, c2, c3, _, _, _, _⟩ := Y2.out
  go_wp2_with fail
  refine N.mono ?_
  rintro e w3 ⟨rfl, b3⟩
  have B3 : Hid (Below w.heap.size w w3) := B2.out.trans (b3.mono B2.out.size)
  have S := sure13 w3 (HG.out.1.below B3.out HG.out.1.pos)
  clear b3 N B2 X2 Y2
  go_wp2_with fail
  refine S.mono ?_
  rintro e w4 ⟨rfl, b4⟩
  have B4 : Hid (Below w.heap.size w w4) := B3.out.trans (b4.mono B3.out.size)
  clear b4 S B3
  go_wp2
  go_ret
  exact ⟨rfl, B4.out⟩
theorem law_of_all (x : Int) (w : World) (hg : ErrT w) (hT : Tab w) : Calls Tryd.prog 3 #[.int .i64 x] w fun e w' => e = .returned (.bool true) ∧ Below w.heap.size w w' := law_of x w hT hg

end Go.Proofs.YtlbbilldehlheaaDoor
