/-
  ProductFew: small whole numbers times small powers of ten are sure, and greater numbers are not rounded to lesser floats.
-/
import Derived.Test.YtohbggdkopmpfaaDoorLawPdA
namespace Go.Proofs.YtohbggdkopmpfaaDoor
open Go.RowKit

theorem few_e (e : Int) : ∃ c : Int, wrap64 ((IntKind.u64.wrap e).tmod 28) = c ∧ 0 ≤ c ∧ c ≤ 27 := by
  refine ⟨_, rfl, ?_⟩
  rw [IntKind.wrap_u64]
  have h : 0 ≤ (e % 18446744073709551616) := by omega
  rw [Int.tmod_eq_emod_of_nonneg h]
  unfold wrap64
  omega
theorem clE_few {c : Int} (h0 : 0 ≤ c) (h1 : c ≤ 27) : clE c = c := by unfold clE; omega
set_option maxRecDepth 100000 in
set_option maxHeartbeats 2000000 in
theorem few_lt {a b : Nat} (ha : a < 18446744073709551616) (hb : b < 18446744073709551616) (h : (a : Int) < (b : Int)) (e : Int) (w : World) (hT : Tab w) :
    Calls Tryd.prog 4 #[.int .u64 (a : Int), .int .u64 (b : Int), .int .i64 e] w fun o w' => o = .returned (.bool true) ∧ Below w.heap.size w w' := by
  obtain ⟨c, hc, c0, c1⟩ := few_e e
  have Rlo64 : ∀ W, Tab W → Calls Tryd.prog 5 #[.int .u64 (a : Int), .int .i64 c, .bool false, .int .i64 64] W fun o w' => ∃ x, o = .returned (.tuple #[.int .u64 ((x : Nat) : Int), .bool true]) ∧ NrT 52 2047 (-1074) (a * pN c) (pD c) 0 0 x ∧ Below W.heap.size W w' := fun W hW => by
    refine (round_ok (s := 64) (.inr ⟨rfl, rfl, rfl, rfl, rfl, rfl⟩) (m := a) (by omega) c false W hW).mono ?_
    rintro o w' ⟨x, ok, rfl, hr, hb⟩
    rw [clE_few c0 c1] at hr
    obtain ⟨rfl, hn⟩ := hr.few c0 (by omega)
    exact ⟨x, rfl, hn, hb⟩
  have Rhi64 : ∀ W, Tab W → Calls Tryd.prog 5 #[.int .u64 (b : Int), .int .i64 c, .bool false, .int .i64 64] W fun o w' => ∃ x, o = .returned (.tuple #[.int .u64 ((x : Nat) : Int), .bool true]) ∧ NrT 52 2047 (-1074) (b * pN c) (pD c) 0 0 x ∧ Below W.heap.size W w' := fun W hW => by
    refine (round_ok (s := 64) (.inr ⟨rfl, rfl, rfl, rfl, rfl, rfl⟩) (m := b) (by omega) c false W hW).mono ?_
    rintro o w' ⟨x, ok, rfl, hr, hb⟩
    rw [clE_few c0 c1] at hr
    obtain ⟨rfl, hn⟩ := hr.few c0 (by omega)
    exact ⟨x, rfl, hn, hb⟩
  have Rlo32 : ∀ W, Tab W → Calls Tryd.prog 5 #[.int .u64 (a : Int), .int .i64 c, .bool false, .int .i64 32] W fun o w' => ∃ x, o = .returned (.tuple #[.int .u64 ((x : Nat) : Int), .bool true]) ∧ NrT 23 255 (-149) (a * pN c) (pD c) 0 0 x ∧ Below W.heap.size W w' := fun W hW => by
    refine (round_ok (s := 32) (.inl ⟨rfl, rfl, rfl, rfl, rfl, rfl⟩) (m := a) (by omega) c false W hW).mono ?_
    rintro o w' ⟨x, ok, rfl, hr, hb⟩
    rw [clE_few c0 c1] at hr
    obtain ⟨rfl, hn⟩ := hr.few c0 (by omega)
    exact ⟨x, rfl, hn, hb⟩
  have Rhi32 : ∀ W, Tab W → Calls Tryd.prog 5 #[.int .u64 (b : Int), .int .i64 c, .bool false, .int .i64 32] W fun o w' => ∃ x, o = .returned (.tuple #[.int .u64 ((x : Nat) : Int), .bool true]) ∧ NrT 23 255 (-149) (b * pN c) (pD c) 0 0 x ∧ Below W.heap.size W w' := fun W hW => by
    refine (round_ok (s := 32) (.inl ⟨rfl, rfl, rfl, rfl, rfl, rfl⟩) (m := b) (by omega) c false W hW).mono ?_
    rintro o w' ⟨x, ok, rfl, hr, hb⟩
    rw [clE_few c0 c1] at hr
    obtain ⟨rfl, hn⟩ := hr.few c0 (by omega)
    exact ⟨x, rfl, hn, hb⟩
  have MO : Hid (a ≤ b) := (by omega : a ≤ b)
  have HT : Hid (Tab w) := hT
  have HCE : Hid (wrap64 ((IntKind.u64.wrap e).tmod 28) = c) := hc
  clear hT ha hc
  go_enter Tryd.func4, Tryd.ntmps4
  go_wp2_with fail
  all_goals first | (exfalso; omega) | skip
  rw [HCE.out]
  refine (Rlo64 _ HT.out).mono ?_
  rintro o w1 ⟨x1, rfl, n1, h1⟩
  have N1 : Hid _ := n1
  have B1 : Hid (Below w.heap.size w w1) := h1
  have T1 : Hid (Tab w1) := HT.out.below B1.out HT.out.pos
  clear h1 n1
  go_wp2_with fail
  all_goals first | (exfalso; omega) | skip
  refine (Rhi64 _ T1.out).mono ?_
  rintro o w2 ⟨x2, rfl, n2, h2⟩
  have N2 : Hid _ := n2
  have B2 : Hid (Below w.heap.size w w2) := B1.out.trans (h2.mono B1.out.size)
  have T2 : Hid (Tab w2) := HT.out.below B2.out HT.out.pos
  clear h2 n2
  go_wp2_with fail
  all_goals first | (exfalso; omega) | skip
  refine (Rlo32 _ T2.out).mono ?_
  rintro o w3 ⟨x3, rfl, n3, h3⟩
  have N3 : Hid _ := n3
  have B3 : Hid (Below w.heap.size w w3) := B2.out.trans (h3.mono B2.out.size)
  have T3 : Hid (Tab w3) := HT.out.below B3.out HT.out.pos
  clear h3 n3
  go_wp2_with fail
  all_goals first | (exfalso; omega) | skip
  refine (Rhi32 _ T3.out).mono ?_
  rintro o w4 ⟨x4, rfl, n4, h4⟩
  have N4 : Hid _ := n4
  have B4 : Hid (Below w.heap.size w w4) := B3.out.trans (h4.mono B3.out.size)
  have T4 : Hid (Tab w4) := HT.out.below B4.out HT.out.pos
  clear h4 n4
  have l1 : x1 ≤ x2 := few_rise MO.out N1.out N2.out
  have l2 : x3 ≤ x4 := few_rise MO.out N3.out N4.out
  have l3 : (x1 : Int) ≤ (x2 : Int) := by omega
  have l4 : (x3 : Int) ≤ (x4 : Int) := by omega
  clear N1 N2 N3 N4
  have S := sure15 w4 T4.out
  go_wp2_with fail
  all_goals first | (exfalso; omega) | skip
  refine S.mono ?_
  rintro o w5 ⟨rfl, h5⟩
  have B5 : Hid (Below w.heap.size w w5) := B4.out.trans (h5.mono B4.out.size)
  clear h5 S
  go_wp2
  go_ret
  exact ⟨rfl, B5.out⟩
set_option maxRecDepth 100000 in
set_option maxHeartbeats 2000000 in
theorem few_gt {a b : Nat} (ha : a < 18446744073709551616) (hb : b < 18446744073709551616) (h : (b : Int) < (a : Int)) (e : Int) (w : World) (hT : Tab w) :
    Calls Tryd.prog 4 #[.int .u64 (a : Int), .int .u64 (b : Int), .int .i64 e] w fun o w' => o = .returned (.bool true) ∧ Below w.heap.size w w' := by
  obtain ⟨c, hc, c0, c1⟩ := few_e e
  have Rlo64 : ∀ W, Tab W → Calls Tryd.prog 5 #[.int .u64 (b : Int), .int .i64 c, .bool false, .int .i64 64] W fun o w' => ∃ x, o = .returned (.tuple #[.int .u64 ((x : Nat) : Int), .bool true]) ∧ NrT 52 2047 (-1074) (b * pN c) (pD c) 0 0 x ∧ Below W.heap.size W w' := fun W hW => by
    refine (round_ok (s := 64) (.inr ⟨rfl, rfl, rfl, rfl, rfl, rfl⟩) (m := b) (by omega) c false W hW).mono ?_
    rintro o w' ⟨x, ok, rfl, hr, hb⟩
    rw [clE_few c0 c1] at hr
    obtain ⟨rfl, hn⟩ := hr.few c0 (by omega)
    exact ⟨x, rfl, hn, hb⟩
  have Rhi64 : ∀ W, Tab W → Calls Tryd.prog 5 #[.int .u64 (a : Int), .int .i64 c, .bool false, .int .i64 64] W fun o w' => ∃ x, o = .returned (.tuple #[.int .u64 ((x : Nat) : Int), .bool true]) ∧ NrT 52 2047 (-1074) (a * pN c) (pD c) 0 0 x ∧ Below W.heap.size W w' := fun W hW => by
    refine (round_ok (s := 64) (.inr ⟨rfl, rfl, rfl, rfl, rfl, rfl⟩) (m := a) (by omega) c false W hW).mono ?_
    rintro o w' ⟨x, ok, rfl, hr, hb⟩
    rw [clE_few c0 c1] at hr
    obtain ⟨rfl, hn⟩ := hr.few c0 (by omega)
    exact ⟨x, rfl, hn, hb⟩
  have Rlo32 : ∀ W, Tab W → Calls Tryd.prog 5 #[.int .u64 (b : Int), .int .i64 c, .bool false, .int .i64 32] W fun o w' => ∃ x, o = .returned (.tuple #[.int .u64 ((x : Nat) : Int), .bool true]) ∧ NrT 23 255 (-149) (b * pN c) (pD c) 0 0 x ∧ Below W.heap.size W w' := fun W hW => by
    refine (round_ok (s := 32) (.inl ⟨rfl, rfl, rfl, rfl, rfl, rfl⟩) (m := b) (by omega) c false W hW).mono ?_
    rintro o w' ⟨x, ok, rfl, hr, hb⟩
    rw [clE_few c0 c1] at hr
    obtain ⟨rfl, hn⟩ := hr.few c0 (by omega)
    exact ⟨x, rfl, hn, hb⟩
  have Rhi32 : ∀ W, Tab W → Calls Tryd.prog 5 #[.int .u64 (a : Int), .int .i64 c, .bool false, .int .i64 32] W fun o w' => ∃ x, o = .returned (.tuple #[.int .u64 ((x : Nat) : Int), .bool true]) ∧ NrT 23 255 (-149) (a * pN c) (pD c) 0 0 x ∧ Below W.heap.size W w' := fun W hW => by
    refine (round_ok (s := 32) (.inl ⟨rfl, rfl, rfl, rfl, rfl, rfl⟩) (m := a) (by omega) c false W hW).mono ?_
    rintro o w' ⟨x, ok, rfl, hr, hb⟩
    rw [clE_few c0 c1] at hr
    obtain ⟨rfl, hn⟩ := hr.few c0 (by omega)
    exact ⟨x, rfl, hn, hb⟩
  have MO : Hid (b ≤ a) := (by omega : b ≤ a)
  have HT : Hid (Tab w) := hT
  have HCE : Hid (wrap64 ((IntKind.u64.wrap e).tmod 28) = c) := hc
  clear hT ha hc
  go_enter Tryd.func4, Tryd.ntmps4
  go_wp2_with fail
  all_goals first | (exfalso; omega) | skip
  rw [HCE.out]
  refine (Rlo64 _ HT.out).mono ?_
  rintro o w1 ⟨x1, rfl, n1, h1⟩
  have N1 : Hid _ := n1
  have B1 : Hid (Below w.heap.size w w1) := h1
  have T1 : Hid (Tab w1) := HT.out.below B1.out HT.out.pos
  clear h1 n1
  go_wp2_with fail
  all_goals first | (exfalso; omega) | skip
  refine (Rhi64 _ T1.out).mono ?_
  rintro o w2 ⟨x2, rfl, n2, h2⟩
  have N2 : Hid _ := n2
  have B2 : Hid (Below w.heap.size w w2) := B1.out.trans (h2.mono B1.out.size)
  have T2 : Hid (Tab w2) := HT.out.below B2.out HT.out.pos
  clear h2 n2
  go_wp2_with fail
  all_goals first | (exfalso; omega) | skip
  refine (Rlo32 _ T2.out).mono ?_
  rintro o w3 ⟨x3, rfl, n3, h3⟩
  have N3 : Hid _ := n3
  have B3 : Hid (Below w.heap.size w w3) := B2.out.trans (h3.mono B2.out.size)
  have T3 : Hid (Tab w3) := HT.out.below B3.out HT.out.pos
  clear h3 n3
  go_wp2_with fail
  all_goals first | (exfalso; omega) | skip
  refine (Rhi32 _ T3.out).mono ?_
  rintro o w4 ⟨x4, rfl, n4, h4⟩
  have N4 : Hid _ := n4
  have B4 : Hid (Below w.heap.size w w4) := B3.out.trans (h4.mono B3.out.size)
  have T4 : Hid (Tab w4) := HT.out.below B4.out HT.out.pos
  clear h4 n4
  have l1 : x1 ≤ x2 := few_rise MO.out N1.out N2.out
  have l2 : x3 ≤ x4 := few_rise MO.out N3.out N4.out
  have l3 : (x1 : Int) ≤ (x2 : Int) := by omega
  have l4 : (x3 : Int) ≤ (x4 : Int) := by omega
  clear N1 N2 N3 N4
  have S := sure15 w4 T4.out
  go_wp2_with fail
  all_goals first | (exfalso; omega) | skip
  refine S.mono ?_
  rintro o w5 ⟨rfl, h5⟩
  have B5 : Hid (Below w.heap.size w w5) := B4.out.trans (h5.mono B4.out.size)
  clear h5 S
  go_wp2
  go_ret
  exact ⟨rfl, B5.out⟩
set_option maxRecDepth 100000 in
set_option maxHeartbeats 2000000 in
theorem few_eq {a : Nat} (ha : a < 18446744073709551616)  (e : Int) (w : World) (hT : Tab w) :
    Calls Tryd.prog 4 #[.int .u64 (a : Int), .int .u64 (a : Int), .int .i64 e] w fun o w' => o = .returned (.bool true) ∧ Below w.heap.size w w' := by
  obtain ⟨c, hc, c0, c1⟩ := few_e e
  have Rlo64 : ∀ W, Tab W → Calls Tryd.prog 5 #[.int .u64 (a : Int), .int .i64 c, .bool false, .int .i64 64] W fun o w' => ∃ x, o = .returned (.tuple #[.int .u64 ((x : Nat) : Int), .bool true]) ∧ NrT 52 2047 (-1074) (a * pN c) (pD c) 0 0 x ∧ Below W.heap.size W w' := fun W hW => by
    refine (round_ok (s := 64) (.inr ⟨rfl, rfl, rfl, rfl, rfl, rfl⟩) (m := a) (by omega) c false W hW).mono ?_
    rintro o w' ⟨x, ok, rfl, hr, hb⟩
    rw [clE_few c0 c1] at hr
    obtain ⟨rfl, hn⟩ := hr.few c0 (by omega)
    exact ⟨x, rfl, hn, hb⟩
  have Rhi64 : ∀ W, Tab W → Calls Tryd.prog 5 #[.int .u64 (a : Int), .int .i64 c, .bool false, .int .i64 64] W fun o w' => ∃ x, o = .returned (.tuple #[.int .u64 ((x : Nat) : Int), .bool true]) ∧ NrT 52 2047 (-1074) (a * pN c) (pD c) 0 0 x ∧ Below W.heap.size W w' := fun W hW => by
    refine (round_ok (s := 64) (.inr ⟨rfl, rfl, rfl, rfl, rfl, rfl⟩) (m := a) (by omega) c false W hW).mono ?_
    rintro o w' ⟨x, ok, rfl, hr, hb⟩
    rw [clE_few c0 c1] at hr
    obtain ⟨rfl, hn⟩ := hr.few c0 (by omega)
    exact ⟨x, rfl, hn, hb⟩
  have Rlo32 : ∀ W, Tab W → Calls Tryd.prog 5 #[.int .u64 (a : Int), .int .i64 c, .bool false, .int .i64 32] W fun o w' => ∃ x, o = .returned (.tuple #[.int .u64 ((x : Nat) : Int), .bool true]) ∧ NrT 23 255 (-149) (a * pN c) (pD c) 0 0 x ∧ Below W.heap.size W w' := fun W hW => by
    refine (round_ok (s := 32) (.inl ⟨rfl, rfl, rfl, rfl, rfl, rfl⟩) (m := a) (by omega) c false W hW).mono ?_
    rintro o w' ⟨x, ok, rfl, hr, hb⟩
    rw [clE_few c0 c1] at hr
    obtain ⟨rfl, hn⟩ := hr.few c0 (by omega)
    exact ⟨x, rfl, hn, hb⟩
  have Rhi32 : ∀ W, Tab W → Calls Tryd.prog 5 #[.int .u64 (a : Int), .int .i64 c, .bool false, .int .i64 32] W fun o w' => ∃ x, o = .returned (.tuple #[.int .u64 ((x : Nat) : Int), .bool true]) ∧ NrT 23 255 (-149) (a * pN c) (pD c) 0 0 x ∧ Below W.heap.size W w' := fun W hW => by
    refine (round_ok (s := 32) (.inl ⟨rfl, rfl, rfl, rfl, rfl, rfl⟩) (m := a) (by omega) c false W hW).mono ?_
    rintro o w' ⟨x, ok, rfl, hr, hb⟩
    rw [clE_few c0 c1] at hr
    obtain ⟨rfl, hn⟩ := hr.few c0 (by omega)
    exact ⟨x, rfl, hn, hb⟩
  have MO : Hid (a ≤ a) := (by omega : a ≤ a)
  have HT : Hid (Tab w) := hT
  have HCE : Hid (wrap64 ((IntKind.u64.wrap e).tmod 28) = c) := hc
  clear hT ha hc
  go_enter Tryd.func4, Tryd.ntmps4
  go_wp2_with fail
  all_goals first | (exfalso; omega) | skip
  rw [HCE.out]
  refine (Rlo64 _ HT.out).mono ?_
  rintro o w1 ⟨x1, rfl, n1, h1⟩
  have N1 : Hid _ := n1
  have B1 : Hid (Below w.heap.size w w1) := h1
  have T1 : Hid (Tab w1) := HT.out.below B1.out HT.out.pos
  clear h1 n1
  go_wp2_with fail
  all_goals first | (exfalso; omega) | skip
  refine (Rhi64 _ T1.out).mono ?_
  rintro o w2 ⟨x2, rfl, n2, h2⟩
  have N2 : Hid _ := n2
  have B2 : Hid (Below w.heap.size w w2) := B1.out.trans (h2.mono B1.out.size)
  have T2 : Hid (Tab w2) := HT.out.below B2.out HT.out.pos
  clear h2 n2
  go_wp2_with fail
  all_goals first | (exfalso; omega) | skip
  refine (Rlo32 _ T2.out).mono ?_
  rintro o w3 ⟨x3, rfl, n3, h3⟩
  have N3 : Hid _ := n3
  have B3 : Hid (Below w.heap.size w w3) := B2.out.trans (h3.mono B2.out.size)
  have T3 : Hid (Tab w3) := HT.out.below B3.out HT.out.pos
  clear h3 n3
  go_wp2_with fail
  all_goals first | (exfalso; omega) | skip
  refine (Rhi32 _ T3.out).mono ?_
  rintro o w4 ⟨x4, rfl, n4, h4⟩
  have N4 : Hid _ := n4
  have B4 : Hid (Below w.heap.size w w4) := B3.out.trans (h4.mono B3.out.size)
  have T4 : Hid (Tab w4) := HT.out.below B4.out HT.out.pos
  clear h4 n4
  have l1 : x1 ≤ x2 := few_rise MO.out N1.out N2.out
  have l2 : x3 ≤ x4 := few_rise MO.out N3.out N4.out
  have l3 : (x1 : Int) ≤ (x2 : Int) := by omega
  have l4 : (x3 : Int) ≤ (x4 : Int) := by omega
  clear N1 N2 N3 N4
  have S := sure15 w4 T4.out
  go_wp2_with fail
  all_goals first | (exfalso; omega) | skip
  refine S.mono ?_
  rintro o w5 ⟨rfl, h5⟩
  have B5 : Hid (Below w.heap.size w w5) := B4.out.trans (h5.mono B4.out.size)
  clear h5 S
  go_wp2
  go_ret
  exact ⟨rfl, B5.out⟩
theorem law_few (a : Nat) (ha : a < 18446744073709551616) (b : Nat) (hb : b < 18446744073709551616) (e : Int) (w : World) (hT : Tab w) :
    Calls Tryd.prog 4 #[.int .u64 (a : Int), .int .u64 (b : Int), .int .i64 e] w fun o w' => o = .returned (.bool true) ∧ Below w.heap.size w w' := by
  rcases Nat.lt_trichotomy a b with h | h | h
  · exact few_lt ha hb (by omega) e w hT
  · subst h
    exact few_eq ha e w hT
  · exact few_gt ha hb (by omega) e w hT
end Go.Proofs.YtohbggdkopmpfaaDoor
