/-
  The law BaseLengths: the walk.
-/
import Derived.Test.YtkjmdjegdehpeaaBsP
namespace Go.Proofs.Ytkjmdjegdehpeaa
open Go.RowKit

theorem len_both (x : Nat) (hx : x < 18446744073709551616) (b : Int) : ∃ n k : Int,
    (∀ W, Calls Try.prog 22 #[.int .u64 (x : Int), .int .i64 b] W fun e w' => e = .returned (.tuple #[.int .i64 n, errV k]) ∧ w' = W) ∧
    (∀ W, Calls Try.prog 23 #[.int .u64 (x : Int), .int .i64 b] W fun e w' => e = .returned (.tuple #[.int .i64 n, .int .i64 k]) ∧ Below W.heap.size W w') := by
  by_cases h : 2 ≤ b ∧ b ≤ 36
  · obtain ⟨m, rfl⟩ : ∃ n : Nat, b = (n : Int) := ⟨b.toNat, by omega⟩
    obtain ⟨K, hK⟩ : ∃ K, DLen m x K := by
      by_cases x0 : x = 0
      · exact ⟨1, Nat.le_refl _, fun _ => rfl, fun z => absurd x0 z, by rw [x0]; exact Nat.pow_pos (by omega)⟩
      · have ex : ∃ K, x < m ^ K := ⟨x, Nat.lt_of_lt_of_le Nat.lt_two_pow_self (Nat.pow_le_pow_left (by omega) x)⟩
        have key : ∀ K, x < m ^ K → ∃ L, DLen m x L := by
          intro K
          induction K with
          | zero => intro z; rw [Nat.pow_zero] at z; omega
          | succ K ih =>
            intro z
            by_cases q : x < m ^ K
            · exact ih q
            · exact ⟨K + 1, by omega, fun y => absurd y x0, fun _ => by rw [Nat.add_sub_cancel]; omega, z⟩
        obtain ⟨K, hK⟩ := ex
        exact key K hK
    refine ⟨(K : Int), 0, fun W => (len_yes x m hx (by omega) (by omega) W).mono ?_, fun W => (rlen_yes x m hx (by omega) (by omega) W).mono ?_⟩
    · rintro e w' ⟨L, rfl, hL, rfl⟩
      obtain rfl := hL.uniq (by omega) hK
      exact ⟨rfl, rfl⟩
    · rintro e w' ⟨L, rfl, hL, hb⟩
      obtain rfl := hL.uniq (by omega) hK
      exact ⟨rfl, hb⟩
  · exact ⟨0, 7, fun W => len_no (x : Int) b (by omega) W, fun W => (rlen_no (x : Int) b (by omega) W).mono fun e w' z => ⟨z.1, by rw [z.2]; exact Below.refl _ _⟩⟩
theorem most_ex {b : Nat} (hb : 2 ≤ b) (h36 : b ≤ 36) : ∃ K, PMost b K := by
  have key : ∀ K, 1 ≤ K → 18446744073709551616 ≤ b ^ (K + 1) → ∃ L, PMost b L := by
    intro K
    induction K with
    | zero => intro z; omega
    | succ K ih =>
      intro _ z
      by_cases q : b ^ (K + 1) < 18446744073709551616
      · exact ⟨K + 1, by omega, q, z⟩
      · rcases Nat.eq_zero_or_pos K with k0 | k0
        · rw [k0, Nat.zero_add, Nat.pow_one] at q; omega
        · exact ih k0 (by omega)
  exact key 63 (by omega) (by have := two_le hb 64; rw [pow64] at this; exact this)
theorem most_both (b : Int) : ∃ n p k : Int,
    (∀ W, Calls Try.prog 24 #[.int .i64 b] W fun e w' => e = .returned (.tuple #[.int .i64 n, .int .u64 p, errV k]) ∧ w' = W) ∧
    (∀ W, Calls Try.prog 25 #[.int .i64 b] W fun e w' => e = .returned (.tuple #[.int .i64 n, .int .u64 p, .int .i64 k]) ∧ Below W.heap.size W w') := by
  by_cases h : 2 ≤ b ∧ b ≤ 36
  · obtain ⟨m, rfl⟩ : ∃ n : Nat, b = (n : Int) := ⟨b.toNat, by omega⟩
    obtain ⟨K, hK⟩ := most_ex (b := m) (by omega) (by omega)
    refine ⟨(K : Int), ((m ^ K : Nat) : Int), 0, fun W => (most_yes m (by omega) (by omega) W).mono ?_, fun W => (rmost_yes m (by omega) (by omega) W).mono ?_⟩
    · rintro e w' ⟨L, P, rfl, ⟨hP, hL⟩, rfl⟩
      obtain rfl := hL.uniq (by omega) hK
      subst hP
      exact ⟨rfl, rfl⟩
    · rintro e w' ⟨L, P, rfl, ⟨hP, hL⟩, hb⟩
      obtain rfl := hL.uniq (by omega) hK
      subst hP
      exact ⟨rfl, hb⟩
  · exact ⟨0, 0, 7, fun W => most_no b (by omega) W, fun W => (rmost_no b (by omega) W).mono fun e w' z => ⟨z.1, by rw [z.2]; exact Below.refl _ _⟩⟩

set_option maxRecDepth 100000 in
set_option maxHeartbeats 2000000 in
theorem lengths_law (x : Nat) (hx : x < 18446744073709551616) (b : Int) (w : World) :
    Calls Try.prog 5 #[.int .u64 (x : Int), .int .i64 b] w fun e w' => e = .returned (.bool true) ∧ Below w.heap.size w w' := by
  obtain ⟨n, k, L1, L2⟩ := len_both x hx b
  obtain ⟨m, p, l, M1, M2⟩ := most_both b
  have N1 := fun W => num_any k W
  have N2 := fun W => num_any l W
  have S1 := fun W => works_any W
  generalize errV k = ek at *
  generalize errV l = el at *
  go_enter Try.func5, Try.ntmps5
  go_wp2_with fail
  refine (L1 _).mono ?_
  rintro e w ⟨rfl, rfl⟩
  go_wp2_with fail
  refine (L2 _).mono ?_
  rintro e w1 ⟨rfl, b1⟩
  have B1 : Hid (Below w.heap.size w w1) := b1
  clear b1
  go_wp2_with fail
  refine (M1 _).mono ?_
  rintro e w1 ⟨rfl, rfl⟩
  go_wp2_with fail
  refine (M2 _).mono ?_
  rintro e w2 ⟨rfl, b2⟩
  have B2 : Hid (Below w.heap.size w w2) := B1.out.trans (b2.mono B1.out.size)
  clear b2
  go_wp2_with fail
  refine (N1 _).mono ?_
  rintro e w2 ⟨rfl, rfl⟩
  go_wp2_with fail
  refine (N2 _).mono ?_
  rintro e w2 ⟨rfl, rfl⟩
  go_wp2_with fail
  refine (S1 _).mono ?_
  rintro e w3 ⟨rfl, b3⟩
  have B3 : Hid (Below w.heap.size w w3) := B2.out.trans (b3.mono B2.out.size)
  clear b3
  go_wp2
  go_ret
  exact ⟨rfl, B3.out⟩
end Go.Proofs.Ytkjmdjegdehpeaa
