/-
  The law BaseTexts: the walk.
-/
import Derived.Test.YtkjmdjegdehpeaaBsR
namespace Go.Proofs.Ytkjmdjegdehpeaa
open Go.RowKit

theorem clean_both (s : ByteArray) (hs : s.size ≤ 140737488351232) (b : Int) (pre : Bool) : ∃ (T : ByteArray) (k : Int),
    (∀ W, Calls Try.prog 17 #[.string s, .int .i64 b, .bool pre] W fun e w' => e = .returned (.tuple #[.string T, errV k]) ∧ Below W.heap.size W w') ∧
    (∀ W, Calls Try.prog 18 #[.string s, .int .i64 b, .bool pre] W fun e w' => e = .returned (.tuple #[.string T, .int .i64 k]) ∧ Below W.heap.size W w') := by
  by_cases h : 2 ≤ b ∧ b ≤ 36
  · obtain ⟨n, rfl⟩ : ∃ n : Nat, b = (n : Int) := ⟨b.toNat, by omega⟩
    have c1 := fun W => clean_yes s (by omega) n (by omega) (by omega) pre W
    have c2 := fun W => rclean_yes s (by omega) n (by omega) (by omega) pre W
    cases q : clean n pre s.data.toList with
    | none =>
      rw [q] at c1 c2
      exact ⟨⟨#[]⟩, 3, c1, c2⟩
    | some o =>
      rw [q] at c1 c2
      exact ⟨⟨o.toArray⟩, 0, c1, c2⟩
  · exact ⟨⟨#[]⟩, 7, fun W => (clean_no s b (by omega) pre W).mono fun e w' z => ⟨z.1, by rw [z.2]; exact Below.refl _ _⟩, fun W => (rclean_no s b (by omega) pre W).mono fun e w' z => ⟨z.1, by rw [z.2]; exact Below.refl _ _⟩⟩
theorem head_both (s : ByteArray) (hs : s.size ≤ 140737488351232) (b : Int) : ∃ (n : Int) (k : Int),
    (∀ W, Calls Try.prog 19 #[.string s, .int .i64 b] W fun e w' => e = .returned (.tuple #[.int .i64 n, errV k]) ∧ w' = W) ∧
    (∀ W, Calls Try.prog 20 #[.string s, .int .i64 b] W fun e w' => e = .returned (.tuple #[.int .i64 n, .int .i64 k]) ∧ w' = W) := by
  by_cases h : 2 ≤ b ∧ b ≤ 36
  · obtain ⟨n, rfl⟩ : ∃ n : Nat, b = (n : Int) := ⟨b.toNat, by omega⟩
    exact ⟨_, 0, fun W => head_yes s (by omega) n (by omega) (by omega) W, fun W => rhead_yes s (by omega) n (by omega) (by omega) W⟩
  · exact ⟨0, 7, fun W => head_no s b (by omega) W, fun W => rhead_no s b (by omega) W⟩

set_option maxRecDepth 100000 in
set_option maxHeartbeats 2000000 in
theorem texts_law (s : ByteArray) (hs : s.size ≤ 140737488351232) (b : Int) (pre : Bool) (w : World) :
    Calls Try.prog 4 #[.string s, .int .i64 b, .bool pre] w fun e w' => e = .returned (.bool true) ∧ Below w.heap.size w w' := by
  have P1 := fun W => prefix_any s (by omega) W
  have P2 := fun W => rprefix_any s (by omega) W
  obtain ⟨T, k, C1, C2⟩ := clean_both s hs b pre
  obtain ⟨n, l, H1, H2⟩ := head_both s hs b
  have N1 := fun W => num_any k W
  have N2 := fun W => num_any l W
  have S1 := fun W => works_any W
  have eT := str_eq T
  generalize pfB (bt s 0) (bt s 1) = x at *
  generalize pfN (bt s 0) (bt s 1) = y at *
  generalize errV k = ek at *
  generalize errV l = el at *
  clear hs
  go_enter Try.func4, Try.ntmps4
  go_wp2_with fail
  refine (P1 _).mono ?_
  rintro e w ⟨rfl, rfl⟩
  go_wp2_with fail
  refine (P2 _).mono ?_
  rintro e w ⟨rfl, rfl⟩
  go_wp2_with fail
  refine (C1 _).mono ?_
  rintro e w1 ⟨rfl, b1⟩
  have B1 : Hid (Below w.heap.size w w1) := b1
  clear b1
  go_wp2_with fail
  refine (C2 _).mono ?_
  rintro e w2 ⟨rfl, b2⟩
  have B2 : Hid (Below w.heap.size w w2) := B1.out.trans (b2.mono B1.out.size)
  clear b2
  go_wp2_with fail
  refine (H1 _).mono ?_
  rintro e w2 ⟨rfl, rfl⟩
  go_wp2_with fail
  refine (H2 _).mono ?_
  rintro e w2 ⟨rfl, rfl⟩
  go_wp2_with fail
  refine (N1 _).mono ?_
  rintro e w2 ⟨rfl, rfl⟩
  go_wp2_with fail
  refine (N2 _).mono ?_
  rintro e w2 ⟨rfl, rfl⟩
  go_wp2_with fail
  refine (S1 _).mono ?_
  rintro e w3 ⟨rfl, b3⟩
  have B3 : Hid (Below w.heap.size w w3) := B2.out.trans (b3.mono B2.out.size)
  clear b3
  go_wp2
  go_ret
  exact ⟨rfl, B3.out⟩
end Go.Proofs.Ytkjmdjegdehpeaa
