/-
  The law CompareTight, by what the program's calls answer.
-/
import Derived.Test.YtfoaeholbidngaaGreatDoorCoI
namespace Go.Proofs.YtfoaeholbidngaaGreatDoor
open Go.RowKit

set_option maxRecDepth 100000 in
set_option maxHeartbeats 2000000 in
theorem tight_no {t : ByteArray} {p : Int} {c : Bool} {z k : Int} (hz : Sn z) {w : World}
    (PN : NoM w 14 #[dcV t p c, .int .i64 z] (.tuple #[.int .u64 0, .iface 74 (.int .i64 k)]))
    (WK : ∀ W, Below w.heap.size w W → Calls Tryz.prog 13 #[] W fun o w' => o = .returned (.bool true) ∧ Below W.heap.size W w') :
    Calls Tryz.prog 6 #[dcV t p c, .int .i64 z] w fun o w' => o = .returned (.bool true) ∧ Below w.heap.size w w' := by
  have SZ := fun W => rsize_no hz W
  unfold NoM dcV at *
  simp only [Array.push, List.concat_eq_append, List.cons_append, List.nil_append] at PN
  have H0 : Hid (DcB (w.alloc (.cells #[.string t, .int .i64 p, .bool c] 23)) w.heap.size (.string t) (.int .i64 p) (.bool c) ∧ Below w.heap.size w (w.alloc (.cells #[.string t, .int .i64 p, .bool c] 23))) := ⟨DcB.new w _ _ _ _, (Below.refl _ _).alloc (Nat.le_refl _) _⟩
  obtain ⟨_, a0, a1, a2, _, _, _⟩ := H0.out.1
  go_enter Tryz.func6, Tryz.ntmps6
  go_wp2_with fail
  all_goals first | (exfalso; omega) | skip
  refine (PN _ H0.out.2).mono ?_
  rintro o w1 ⟨rfl, b1⟩
  have H1 : Hid (DcB w1 w.heap.size (.string t) (.int .i64 p) (.bool c) ∧ Below w.heap.size w w1) := ⟨H0.out.1.step b1, H0.out.2.trans (b1.mono H0.out.2.size)⟩
  clear b1 H0 a0 a1 a2
  obtain ⟨_, a0, a1, a2, _, _, _⟩ := H1.out.1
  go_wp2_with fail
  refine (SZ _).mono ?_
  rintro o w1 ⟨rfl, rfl⟩
  go_wp2_with fail
  all_goals first | (exfalso; omega) | skip
  refine (WK _ H1.out.2).mono ?_
  rintro o wz ⟨rfl, bz⟩
  have Bz : Hid (Below w.heap.size w wz) := H1.out.2.trans (bz.mono H1.out.2.size)
  clear bz
  go_wp2
  go_ret
  exact ⟨rfl, Bz.out⟩
set_option maxRecDepth 100000 in
set_option maxHeartbeats 2000000 in
theorem tight_bad {t : ByteArray} {p : Int} {c : Bool} {z k : Int} {g n f T : Nat} {L : Int} (hz : Fz z g n f T L) (ht : t.size ≤ 9223372036854775807) (hv : ¬ VD t p c) {w : World}
    (PN : NoM w 14 #[dcV t p c, .int .i64 z] (.tuple #[.int .u64 0, .iface 74 (.int .i64 k)]))
    (WK : ∀ W, Below w.heap.size w W → Calls Tryz.prog 13 #[] W fun o w' => o = .returned (.bool true) ∧ Below W.heap.size W w') :
    Calls Tryz.prog 6 #[dcV t p c, .int .i64 z] w fun o w' => o = .returned (.bool true) ∧ Below w.heap.size w w' := by
  have SZ := fun W => rsize_z hz W
  have VA := fun W => rvald_no ht hv W
  clear hv
  unfold NoM dcV at *
  simp only [Array.push, List.concat_eq_append, List.cons_append, List.nil_append] at PN
  have H0 : Hid (DcB (w.alloc (.cells #[.string t, .int .i64 p, .bool c] 23)) w.heap.size (.string t) (.int .i64 p) (.bool c) ∧ Below w.heap.size w (w.alloc (.cells #[.string t, .int .i64 p, .bool c] 23))) := ⟨DcB.new w _ _ _ _, (Below.refl _ _).alloc (Nat.le_refl _) _⟩
  obtain ⟨_, a0, a1, a2, _, _, _⟩ := H0.out.1
  go_enter Tryz.func6, Tryz.ntmps6
  go_wp2_with fail
  all_goals first | (exfalso; omega) | skip
  refine (PN _ H0.out.2).mono ?_
  rintro o w1 ⟨rfl, b1⟩
  have H1 : Hid (DcB w1 w.heap.size (.string t) (.int .i64 p) (.bool c) ∧ Below w.heap.size w w1) := ⟨H0.out.1.step b1, H0.out.2.trans (b1.mono H0.out.2.size)⟩
  clear b1 H0 a0 a1 a2
  obtain ⟨_, a0, a1, a2, _, _, _⟩ := H1.out.1
  go_wp2_with fail
  refine (SZ _).mono ?_
  rintro o w1 ⟨rfl, rfl⟩
  go_wp2_with fail
  all_goals first | (exfalso; omega) | skip
  refine (VA _).mono ?_
  rintro o w2 ⟨rfl, b2⟩
  have H2 : Hid (DcB w2 w.heap.size (.string t) (.int .i64 p) (.bool c) ∧ Below w.heap.size w w2) := ⟨H1.out.1.step b2, H1.out.2.trans (b2.mono H1.out.2.size)⟩
  clear b2 H1 a0 a1 a2
  obtain ⟨_, a0, a1, a2, _, _, _⟩ := H2.out.1
  go_wp2_with fail
  all_goals first | (exfalso; omega) | skip
  refine (WK _ H2.out.2).mono ?_
  rintro o wz ⟨rfl, bz⟩
  have Bz : Hid (Below w.heap.size w wz) := H2.out.2.trans (bz.mono H2.out.2.size)
  clear bz
  go_wp2
  go_ret
  exact ⟨rfl, Bz.out⟩
set_option maxRecDepth 100000 in
set_option maxHeartbeats 2000000 in
theorem tight_zero {t : ByteArray} {p : Int} {c : Bool} {z : Int} {g n f T : Nat} {L : Int} (hz : Fz z g n f T L) (hv : VD t p c) {c1 : Int} (h1 : c1 = -1 ∨ (c1 = 0 ∧ (0 : Nat) % 2 = 0)) {w : World}
    (PN : NoM w 14 #[dcV t p c, .int .i64 z] (.tuple #[.int .u64 0, .nilIface]))
    (P1 : NoM w 10 #[dcV t p c, .int .u64 0, .int .i64 z] (.tuple #[.int .i64 c1, .nilIface]))
    (WK : ∀ W, Below w.heap.size w W → Calls Tryz.prog 13 #[] W fun o w' => o = .returned (.bool true) ∧ Below W.heap.size W w') :
    Calls Tryz.prog 6 #[dcV t p c, .int .i64 z] w fun o w' => o = .returned (.bool true) ∧ Below w.heap.size w w' := by
  have SZ := fun W => rsize_z hz W
  have VA := fun W => rvald_yes hv W
  have IN := fun W => rinf_z hz W
  obtain ⟨en, ng', g2, _⟩ := fz_parts hz
  rw [← en] at IN
  have nP : 0 < n := by rcases hz with ⟨_, _, rfl, _⟩ | ⟨_, _, rfl, _⟩ <;> decide
  have NK := fun W => num_nilC W
  have i1 : (0 : Int) < (n : Int) := by omega
  have hn : n < 9223372036854775808 := by omega
  have i2 : ((0 : Int) == (n : Int)) = false := by rw [beq_eq_false_iff_ne]; omega
  have i5 : ¬ (n : Int) < 0 := by omega
  clear hv en ng' g2 nP
  unfold NoM dcV at *
  simp only [Array.push, List.concat_eq_append, List.cons_append, List.nil_append] at PN P1
  have H0 : Hid (DcB (w.alloc (.cells #[.string t, .int .i64 p, .bool c] 23)) w.heap.size (.string t) (.int .i64 p) (.bool c) ∧ Below w.heap.size w (w.alloc (.cells #[.string t, .int .i64 p, .bool c] 23))) := ⟨DcB.new w _ _ _ _, (Below.refl _ _).alloc (Nat.le_refl _) _⟩
  obtain ⟨_, a0, a1, a2, _, _, _⟩ := H0.out.1
  go_enter Tryz.func6, Tryz.ntmps6
  go_wp2_with fail
  all_goals first | (exfalso; omega) | skip
  refine (PN _ H0.out.2).mono ?_
  rintro o w1 ⟨rfl, b1⟩
  have H1 : Hid (DcB w1 w.heap.size (.string t) (.int .i64 p) (.bool c) ∧ Below w.heap.size w w1) := ⟨H0.out.1.step b1, H0.out.2.trans (b1.mono H0.out.2.size)⟩
  clear b1 H0 a0 a1 a2
  obtain ⟨_, a0, a1, a2, _, _, _⟩ := H1.out.1
  go_wp2_with fail
  refine (SZ _).mono ?_
  rintro o w1 ⟨rfl, rfl⟩
  go_wp2_with fail
  all_goals first | (exfalso; omega) | skip
  refine (VA _).mono ?_
  rintro o w2 ⟨rfl, b2⟩
  have H2 : Hid (DcB w2 w.heap.size (.string t) (.int .i64 p) (.bool c) ∧ Below w.heap.size w w2) := ⟨H1.out.1.step b2, H1.out.2.trans (b2.mono H1.out.2.size)⟩
  clear b2 H1 a0 a1 a2
  obtain ⟨_, a0, a1, a2, _, _, _⟩ := H2.out.1
  go_wp2_with fail
  refine (IN _).mono ?_
  rintro o w2 ⟨rfl, rfl⟩
  go_wp2_with fail
  refine (NK _).mono ?_
  rintro o w2 ⟨rfl, rfl⟩
  go_wp2_with fail
  all_goals first | (exfalso; omega) | skip
  refine (P1 _ H2.out.2).mono ?_
  rintro o w3 ⟨rfl, b3⟩
  have H3 : Hid (DcB w3 w.heap.size (.string t) (.int .i64 p) (.bool c) ∧ Below w.heap.size w w3) := ⟨H2.out.1.step b3, H2.out.2.trans (b3.mono H2.out.2.size)⟩
  clear b3 H2 a0 a1 a2
  obtain ⟨_, a0, a1, a2, _, _, _⟩ := H3.out.1
  rcases h1 with rfl | ⟨rfl, _⟩
  · go_wp2_with fail
    all_goals first | (exfalso; omega) | skip
    refine (WK _ H3.out.2).mono ?_
    rintro o wz ⟨rfl, bz⟩
    have Bz : Hid (Below w.heap.size w wz) := H3.out.2.trans (bz.mono H3.out.2.size)
    clear bz
    go_wp2
    go_ret
    exact ⟨rfl, Bz.out⟩
  · go_wp2_with fail
    all_goals first | (exfalso; omega) | skip
    refine (WK _ H3.out.2).mono ?_
    rintro o wz ⟨rfl, bz⟩
    have Bz : Hid (Below w.heap.size w wz) := H3.out.2.trans (bz.mono H3.out.2.size)
    clear bz
    go_wp2
    go_ret
    exact ⟨rfl, Bz.out⟩
set_option maxRecDepth 100000 in
set_option maxHeartbeats 2000000 in
theorem tight_mid {t : ByteArray} {p : Int} {c : Bool} {z : Int} {g n f T : Nat} {L : Int} (hz : Fz z g n f T L) (hv : VD t p c) {x : Nat} (x0 : 0 < x) (xn : x < n) {c1 : Int} (h1 : c1 = -1 ∨ (c1 = 0 ∧ x % 2 = 0)) {c2 : Int} (h2 : c2 = 1 ∨ (c2 = 0 ∧ x % 2 = 0)) {w : World}
    (PN : NoM w 14 #[dcV t p c, .int .i64 z] (.tuple #[.int .u64 (x : Int), .nilIface]))
    (P1 : NoM w 10 #[dcV t p c, .int .u64 (x : Int), .int .i64 z] (.tuple #[.int .i64 c1, .nilIface]))
    (P2 : NoM w 10 #[dcV t p c, .int .u64 ((x : Int) - 1), .int .i64 z] (.tuple #[.int .i64 c2, .nilIface]))
    (WK : ∀ W, Below w.heap.size w W → Calls Tryz.prog 13 #[] W fun o w' => o = .returned (.bool true) ∧ Below W.heap.size W w') :
    Calls Tryz.prog 6 #[dcV t p c, .int .i64 z] w fun o w' => o = .returned (.bool true) ∧ Below w.heap.size w w' := by
  have SZ := fun W => rsize_z hz W
  have VA := fun W => rvald_yes hv W
  have IN := fun W => rinf_z hz W
  obtain ⟨en, ng', g2, _⟩ := fz_parts hz
  rw [← en] at IN
  have nP : 0 < n := by rcases hz with ⟨_, _, rfl, _⟩ | ⟨_, _, rfl, _⟩ <;> decide
  have NK := fun W => num_nilC W
  have i1 : (0 : Int) < (n : Int) := by omega
  have hn : n < 9223372036854775808 := by omega
  have i2 : ((x : Int) == (n : Int)) = false := by rw [beq_eq_false_iff_ne]; omega
  have i3 : (x : Int) < (n : Int) := by omega
  have i4 : (0 : Int) < (x : Int) := by omega
  have i5 : ¬ (n : Int) < (x : Int) := by omega
  clear hv en ng' g2 nP
  unfold NoM dcV at *
  simp only [Array.push, List.concat_eq_append, List.cons_append, List.nil_append] at PN P1 P2
  have H0 : Hid (DcB (w.alloc (.cells #[.string t, .int .i64 p, .bool c] 23)) w.heap.size (.string t) (.int .i64 p) (.bool c) ∧ Below w.heap.size w (w.alloc (.cells #[.string t, .int .i64 p, .bool c] 23))) := ⟨DcB.new w _ _ _ _, (Below.refl _ _).alloc (Nat.le_refl _) _⟩
  obtain ⟨_, a0, a1, a2, _, _, _⟩ := H0.out.1
  go_enter Tryz.func6, Tryz.ntmps6
  go_wp2_with fail
  all_goals first | (exfalso; omega) | skip
  refine (PN _ H0.out.2).mono ?_
  rintro o w1 ⟨rfl, b1⟩
  have H1 : Hid (DcB w1 w.heap.size (.string t) (.int .i64 p) (.bool c) ∧ Below w.heap.size w w1) := ⟨H0.out.1.step b1, H0.out.2.trans (b1.mono H0.out.2.size)⟩
  clear b1 H0 a0 a1 a2
  obtain ⟨_, a0, a1, a2, _, _, _⟩ := H1.out.1
  go_wp2_with fail
  refine (SZ _).mono ?_
  rintro o w1 ⟨rfl, rfl⟩
  go_wp2_with fail
  all_goals first | (exfalso; omega) | skip
  refine (VA _).mono ?_
  rintro o w2 ⟨rfl, b2⟩
  have H2 : Hid (DcB w2 w.heap.size (.string t) (.int .i64 p) (.bool c) ∧ Below w.heap.size w w2) := ⟨H1.out.1.step b2, H1.out.2.trans (b2.mono H1.out.2.size)⟩
  clear b2 H1 a0 a1 a2
  obtain ⟨_, a0, a1, a2, _, _, _⟩ := H2.out.1
  go_wp2_with fail
  refine (IN _).mono ?_
  rintro o w2 ⟨rfl, rfl⟩
  go_wp2_with fail
  refine (NK _).mono ?_
  rintro o w2 ⟨rfl, rfl⟩
  go_wp2_with fail
  all_goals first | (exfalso; omega) | skip
  refine (P1 _ H2.out.2).mono ?_
  rintro o w3 ⟨rfl, b3⟩
  have H3 : Hid (DcB w3 w.heap.size (.string t) (.int .i64 p) (.bool c) ∧ Below w.heap.size w w3) := ⟨H2.out.1.step b3, H2.out.2.trans (b3.mono H2.out.2.size)⟩
  clear b3 H2 a0 a1 a2
  obtain ⟨_, a0, a1, a2, _, _, _⟩ := H3.out.1
  rcases h1 with rfl | ⟨rfl, hp⟩
  · go_wp2_with fail
    all_goals first | (exfalso; omega) | skip
    refine (P2 _ H3.out.2).mono ?_
    rintro o w4 ⟨rfl, b4⟩
    have H4 : Hid (DcB w4 w.heap.size (.string t) (.int .i64 p) (.bool c) ∧ Below w.heap.size w w4) := ⟨H3.out.1.step b4, H3.out.2.trans (b4.mono H3.out.2.size)⟩
    clear b4 H3 a0 a1 a2
    obtain ⟨_, a0, a1, a2, _, _, _⟩ := H4.out.1
    rcases h2 with rfl | ⟨rfl, hp2⟩
    · go_wp2_with fail
      all_goals first | (exfalso; omega) | skip
      refine (WK _ H4.out.2).mono ?_
      rintro o wz ⟨rfl, bz⟩
      have Bz : Hid (Below w.heap.size w wz) := H4.out.2.trans (bz.mono H4.out.2.size)
      clear bz
      go_wp2
      go_ret
      exact ⟨rfl, Bz.out⟩
    · have pe2 : ((x : Int).tmod 2 == 1) = false := by rw [Int.tmod_eq_emod_of_nonneg (by omega), beq_eq_false_iff_ne]; omega
      go_wp2_with fail
      all_goals first | (exfalso; omega) | skip
      refine (WK _ H4.out.2).mono ?_
      rintro o wz ⟨rfl, bz⟩
      have Bz : Hid (Below w.heap.size w wz) := H4.out.2.trans (bz.mono H4.out.2.size)
      clear bz
      go_wp2
      go_ret
      exact ⟨rfl, Bz.out⟩
  · have pe : ((x : Int).tmod 2 == 1) = false := by rw [Int.tmod_eq_emod_of_nonneg (by omega), beq_eq_false_iff_ne]; omega
    go_wp2_with fail
    all_goals first | (exfalso; omega) | skip
    refine (P2 _ H3.out.2).mono ?_
    rintro o w4 ⟨rfl, b4⟩
    have H4 : Hid (DcB w4 w.heap.size (.string t) (.int .i64 p) (.bool c) ∧ Below w.heap.size w w4) := ⟨H3.out.1.step b4, H3.out.2.trans (b4.mono H3.out.2.size)⟩
    clear b4 H3 a0 a1 a2
    obtain ⟨_, a0, a1, a2, _, _, _⟩ := H4.out.1
    rcases h2 with rfl | ⟨rfl, hp2⟩
    · go_wp2_with fail
      all_goals first | (exfalso; omega) | skip
      refine (WK _ H4.out.2).mono ?_
      rintro o wz ⟨rfl, bz⟩
      have Bz : Hid (Below w.heap.size w wz) := H4.out.2.trans (bz.mono H4.out.2.size)
      clear bz
      go_wp2
      go_ret
      exact ⟨rfl, Bz.out⟩
    · go_wp2_with fail
      all_goals first | (exfalso; omega) | skip
      refine (WK _ H4.out.2).mono ?_
      rintro o wz ⟨rfl, bz⟩
      have Bz : Hid (Below w.heap.size w wz) := H4.out.2.trans (bz.mono H4.out.2.size)
      clear bz
      go_wp2
      go_ret
      exact ⟨rfl, Bz.out⟩
set_option maxRecDepth 100000 in
set_option maxHeartbeats 2000000 in
theorem tight_inf {t : ByteArray} {p : Int} {c : Bool} {z : Int} {g n f T : Nat} {L : Int} (hz : Fz z g n f T L) (hv : VD t p c) {c2 : Int} (h2 : c2 = 1 ∨ (c2 = 0 ∧ n % 2 = 0)) {w : World}
    (PN : NoM w 14 #[dcV t p c, .int .i64 z] (.tuple #[.int .u64 (n : Int), .iface 74 (.int .i64 4)]))
    (P2 : NoM w 10 #[dcV t p c, .int .u64 ((n : Int) - 1), .int .i64 z] (.tuple #[.int .i64 c2, .nilIface]))
    (WK : ∀ W, Below w.heap.size w W → Calls Tryz.prog 13 #[] W fun o w' => o = .returned (.bool true) ∧ Below W.heap.size W w') :
    Calls Tryz.prog 6 #[dcV t p c, .int .i64 z] w fun o w' => o = .returned (.bool true) ∧ Below w.heap.size w w' := by
  have SZ := fun W => rsize_z hz W
  have VA := fun W => rvald_yes hv W
  have IN := fun W => rinf_z hz W
  obtain ⟨en, ng', g2, _⟩ := fz_parts hz
  rw [← en] at IN
  have nP : 0 < n := by rcases hz with ⟨_, _, rfl, _⟩ | ⟨_, _, rfl, _⟩ <;> decide
  have NK := fun W => num_errnoC 4 W
  have i1 : (0 : Int) < (n : Int) := by omega
  have hn : n < 9223372036854775808 := by omega
  clear hv en ng' g2 nP
  unfold NoM dcV at *
  simp only [Array.push, List.concat_eq_append, List.cons_append, List.nil_append] at PN P2
  have H0 : Hid (DcB (w.alloc (.cells #[.string t, .int .i64 p, .bool c] 23)) w.heap.size (.string t) (.int .i64 p) (.bool c) ∧ Below w.heap.size w (w.alloc (.cells #[.string t, .int .i64 p, .bool c] 23))) := ⟨DcB.new w _ _ _ _, (Below.refl _ _).alloc (Nat.le_refl _) _⟩
  obtain ⟨_, a0, a1, a2, _, _, _⟩ := H0.out.1
  go_enter Tryz.func6, Tryz.ntmps6
  go_wp2_with fail
  all_goals first | (exfalso; omega) | skip
  refine (PN _ H0.out.2).mono ?_
  rintro o w1 ⟨rfl, b1⟩
  have H1 : Hid (DcB w1 w.heap.size (.string t) (.int .i64 p) (.bool c) ∧ Below w.heap.size w w1) := ⟨H0.out.1.step b1, H0.out.2.trans (b1.mono H0.out.2.size)⟩
  clear b1 H0 a0 a1 a2
  obtain ⟨_, a0, a1, a2, _, _, _⟩ := H1.out.1
  go_wp2_with fail
  refine (SZ _).mono ?_
  rintro o w1 ⟨rfl, rfl⟩
  go_wp2_with fail
  all_goals first | (exfalso; omega) | skip
  refine (VA _).mono ?_
  rintro o w2 ⟨rfl, b2⟩
  have H2 : Hid (DcB w2 w.heap.size (.string t) (.int .i64 p) (.bool c) ∧ Below w.heap.size w w2) := ⟨H1.out.1.step b2, H1.out.2.trans (b2.mono H1.out.2.size)⟩
  clear b2 H1 a0 a1 a2
  obtain ⟨_, a0, a1, a2, _, _, _⟩ := H2.out.1
  go_wp2_with fail
  refine (IN _).mono ?_
  rintro o w2 ⟨rfl, rfl⟩
  go_wp2_with fail
  refine (NK _).mono ?_
  rintro o w2 ⟨rfl, rfl⟩
  go_wp2_with fail
  all_goals first | (exfalso; omega) | skip
  refine (P2 _ H2.out.2).mono ?_
  rintro o w3 ⟨rfl, b3⟩
  have H3 : Hid (DcB w3 w.heap.size (.string t) (.int .i64 p) (.bool c) ∧ Below w.heap.size w w3) := ⟨H2.out.1.step b3, H2.out.2.trans (b3.mono H2.out.2.size)⟩
  clear b3 H2 a0 a1 a2
  obtain ⟨_, a0, a1, a2, _, _, _⟩ := H3.out.1
  rcases h2 with rfl | ⟨rfl, hp⟩
  · go_wp2_with fail
    all_goals first | (exfalso; omega) | skip
    refine (WK _ H3.out.2).mono ?_
    rintro o wz ⟨rfl, bz⟩
    have Bz : Hid (Below w.heap.size w wz) := H3.out.2.trans (bz.mono H3.out.2.size)
    clear bz
    go_wp2
    go_ret
    exact ⟨rfl, Bz.out⟩
  · have pe : ((n : Int).tmod 2 == 1) = false := by rw [Int.tmod_eq_emod_of_nonneg (by omega), beq_eq_false_iff_ne]; omega
    go_wp2_with fail
    all_goals first | (exfalso; omega) | skip
    refine (WK _ H3.out.2).mono ?_
    rintro o wz ⟨rfl, bz⟩
    have Bz : Hid (Below w.heap.size w wz) := H3.out.2.trans (bz.mono H3.out.2.size)
    clear bz
    go_wp2
    go_ret
    exact ⟨rfl, Bz.out⟩
end Go.Proofs.YtfoaeholbidngaaGreatDoor
