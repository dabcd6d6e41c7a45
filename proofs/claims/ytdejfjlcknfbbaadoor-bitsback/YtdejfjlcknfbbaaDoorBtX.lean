/-
  bits' nearest: the float of 32 bits nearest to a number of up to 53 bits and a power of two.
-/
import Derived.Test.YtdejfjlcknfbbaaDoorBtH
namespace Go.Proofs.YtdejfjlcknfbbaaDoor
open Go.RowKit

set_option maxRecDepth 100000 in
set_option maxHeartbeats 1000000 in
theorem near_low {m s : Nat} {p : Int} (hm : m < 9007199254740992) (hp0 : -1074 ≤ p) (hp1 : p ≤ 971) (hu : min (24 - (ln m : Int)) (p + 149) = -(s : Int)) (s0 : 0 < s) (s1 : s ≤ 2000) (q : ln m < s) (w : World) : Calls Tryd.prog 58 #[.agg #[.int .u64 2147483648, .int .u64 2139095040, .int .i64 23, .int .i64 (-149)], .int .u64 (m : Int), .int .i64 p] w fun e w' => e = .returned (.tuple #[.int .u64 0, .bool false]) ∧ Below w.heap.size w w' := by
  have HR := fun W => room_32 (word_nat (show m < 18446744073709551616 by omega)) (blen_ln m (by omega)) (by omega : -9223372036854775808 ≤ p) (by omega : p ≤ 5000) W
  rw [hu] at HR
  have HN := fun W => len64_any (m : Int) (word_nat (show m < 18446744073709551616 by omega)) W
  rw [blen_ln m (by omega)] at HN
  have q' : (ln m : Int) < (s : Int) := by omega
  generalize ln m = n at *
  clear hu hm
  go_enter Tryd.func58, Tryd.ntmps58
  go_wp2_with fail
  refine (HR _).mono ?_
  rintro e w3 ⟨rfl, hb⟩
  have T3 : Hid (ShB w w3 _ _ _ _) := (ShB.start w (.int .u64 2147483648) (.int .u64 2139095040) (.int .i64 23) (.int .i64 (-149)) 65).step hb
  clear hb
  obtain ⟨z3, _, b0, b1, b2, b3⟩ := T3.out
  go_wp2_with fail
  refine (HN _).mono ?_
  rintro e w3 ⟨rfl, rfl⟩
  go_wp2
  go_ret2
  exact ⟨rfl, T3.out.bel⟩
set_option maxRecDepth 100000 in
set_option maxHeartbeats 1000000 in
theorem near_gt_inf {m s : Nat} {p : Int} (hm : m < 9007199254740992) (hp0 : -1074 ≤ p) (hp1 : p ≤ 971) (hu : min (24 - (ln m : Int)) (p + 149) = -(s : Int)) (s0 : 0 < s) (s1 : s ≤ 2000) (q : ¬ ln m < s) {j Q P R H : Nat} (hj : s = j + 1) (hQ : m / 2 ^ s = Q) (hP : Q * 2 ^ s = P) (hR : m - P = R) (hPm : P ≤ m) (hH : 2 ^ j = H) (g : H < R) (q3 : 104 < p + (s : Int)) (w : World) : Calls Tryd.prog 58 #[.agg #[.int .u64 2147483648, .int .u64 2139095040, .int .i64 23, .int .i64 (-149)], .int .u64 (m : Int), .int .i64 p] w fun e w' => e = .returned (.tuple #[.int .u64 2139095040, .bool false]) ∧ Below w.heap.size w w' := by
  have HR := fun W => room_32 (word_nat (show m < 18446744073709551616 by omega)) (blen_ln m (by omega)) (by omega : -9223372036854775808 ≤ p) (by omega : p ≤ 5000) W
  rw [hu] at HR
  have HN := fun W => len64_any (m : Int) (word_nat (show m < 18446744073709551616 by omega)) W
  rw [blen_ln m (by omega)] at HN
  have l53 : ln m ≤ 53 := (ln_iff m 53).2 hm
  have q' : ¬ (ln m : Int) < (s : Int) := by omega
  have e0 : min s 64 = s := Nat.min_eq_left (by omega)
  have e1 : (m : Int) / 2 ^ min s 64 = (Q : Int) := by rw [e0, ← hQ]; simp
  have e2 : IntKind.u64.wrap ((Q : Int) * 2 ^ min s 64) = (P : Int) := by
    rw [e0, show (Q : Int) * 2 ^ s = ((Q * 2 ^ s : Nat) : Int) by simp, hP, IntKind.wrap_u64]
    omega
  have e3 : IntKind.u64.wrap ((m : Int) - (P : Int)) = (R : Int) := by rw [IntKind.wrap_u64]; omega
  have i1 : IntKind.i64.wrap ((s : Int) - 1) = (j : Int) := by rw [IntKind.wrap_i64]; omega
  have e4 : IntKind.u64.wrap (2 ^ min j 64) = (H : Int) := by
    have : H < 18446744073709551616 := by
      rw [← hH]
      exact Nat.lt_of_le_of_lt (Nat.pow_le_pow_right (by decide) (show j ≤ 63 by omega)) (by decide)
    rw [Nat.min_eq_left (by omega), show (2 : Int) ^ j = ((2 ^ j : Nat) : Int) by simp, hH, IntKind.wrap_u64]
    omega
  have r1 : R < 9007199254740992 := by omega
  have k1 : Q < 9007199254740992 := by rw [← hQ]; exact Nat.lt_of_le_of_lt (Nat.div_le_self _ _) hm
  generalize ln m = n at *
  clear hu e0 hQ hP hR hH hj l53 hPm
  have HM := fun W => most_32 W
  go_enter Tryd.func58, Tryd.ntmps58
  go_wp2_with fail
  refine (HR _).mono ?_
  rintro e w3 ⟨rfl, hb⟩
  have T3 : Hid (ShB w w3 _ _ _ _) := (ShB.start w (.int .u64 2147483648) (.int .u64 2139095040) (.int .i64 23) (.int .i64 (-149)) 65).step hb
  clear hb
  obtain ⟨z3, _, b0, b1, b2, b3⟩ := T3.out
  go_wp2_with fail
  refine (HN _).mono ?_
  rintro e w3 ⟨rfl, rfl⟩
  go_wp2
  go_region_held3 (fun _ => True) (trivial) (fail)
  go_wp2_with fail
  refine (HM _).mono ?_
  rintro e w4 ⟨rfl, hb⟩
  have T4 : Hid (ShB w w4 _ _ _ _) := T3.out.drew.step hb
  clear hb b0 b1 b2 b3
  obtain ⟨z4, _, c0, c1, c2, c3⟩ := T4.out
  go_wp2
  go_ret2
  exact ⟨rfl, T4.out.bel⟩
set_option maxRecDepth 100000 in
set_option maxHeartbeats 1000000 in
theorem near_gt_fin {m s : Nat} {p : Int} (hm : m < 9007199254740992) (hp0 : -1074 ≤ p) (hp1 : p ≤ 971) (hu : min (24 - (ln m : Int)) (p + 149) = -(s : Int)) (s0 : 0 < s) (s1 : s ≤ 2000) (q : ¬ ln m < s) {j Q P R H : Nat} (hj : s = j + 1) (hQ : m / 2 ^ s = Q) (hP : Q * 2 ^ s = P) (hR : m - P = R) (hPm : P ≤ m) (hH : 2 ^ j = H) (g : H < R) (q3 : ¬ 104 < p + (s : Int)) {k : Nat} (hk : p + (s : Int) = -149 + (k : Int)) (hx : (Q + 1) ≤ 16777216) (w : World) : Calls Tryd.prog 58 #[.agg #[.int .u64 2147483648, .int .u64 2139095040, .int .i64 23, .int .i64 (-149)], .int .u64 (m : Int), .int .i64 p] w fun e w' => e = .returned (.tuple #[.int .u64 ((k * 8388608 + (Q + 1) : Nat) : Int), .bool ((R : Int) == 0)]) ∧ Below w.heap.size w w' := by
  have HR := fun W => room_32 (word_nat (show m < 18446744073709551616 by omega)) (blen_ln m (by omega)) (by omega : -9223372036854775808 ≤ p) (by omega : p ≤ 5000) W
  rw [hu] at HR
  have HN := fun W => len64_any (m : Int) (word_nat (show m < 18446744073709551616 by omega)) W
  rw [blen_ln m (by omega)] at HN
  have l53 : ln m ≤ 53 := (ln_iff m 53).2 hm
  have q' : ¬ (ln m : Int) < (s : Int) := by omega
  have e0 : min s 64 = s := Nat.min_eq_left (by omega)
  have e1 : (m : Int) / 2 ^ min s 64 = (Q : Int) := by rw [e0, ← hQ]; simp
  have e2 : IntKind.u64.wrap ((Q : Int) * 2 ^ min s 64) = (P : Int) := by
    rw [e0, show (Q : Int) * 2 ^ s = ((Q * 2 ^ s : Nat) : Int) by simp, hP, IntKind.wrap_u64]
    omega
  have e3 : IntKind.u64.wrap ((m : Int) - (P : Int)) = (R : Int) := by rw [IntKind.wrap_u64]; omega
  have i1 : IntKind.i64.wrap ((s : Int) - 1) = (j : Int) := by rw [IntKind.wrap_i64]; omega
  have e4 : IntKind.u64.wrap (2 ^ min j 64) = (H : Int) := by
    have : H < 18446744073709551616 := by
      rw [← hH]
      exact Nat.lt_of_le_of_lt (Nat.pow_le_pow_right (by decide) (show j ≤ 63 by omega)) (by decide)
    rw [Nat.min_eq_left (by omega), show (2 : Int) ^ j = ((2 ^ j : Nat) : Int) by simp, hH, IntKind.wrap_u64]
    omega
  have r1 : R < 9007199254740992 := by omega
  have k1 : Q < 9007199254740992 := by rw [← hQ]; exact Nat.lt_of_le_of_lt (Nat.div_le_self _ _) hm
  generalize ln m = n at *
  clear hu e0 hQ hP hR hH hj l53 hPm
  have HM := fun W => most_32 W
  have HY := fun W => lay_32 hk (by omega : k ≤ 255) hx W
  generalize k * 8388608 + (Q + 1) = Z at *
  rw [show ((Q + 1 : Nat) : Int) = (Q : Int) + 1 by omega] at HY
  generalize hB : ((R : Int) == 0) = B at *
  clear hk hx
  go_enter Tryd.func58, Tryd.ntmps58
  go_wp2_with fail
  refine (HR _).mono ?_
  rintro e w3 ⟨rfl, hb⟩
  have T3 : Hid (ShB w w3 _ _ _ _) := (ShB.start w (.int .u64 2147483648) (.int .u64 2139095040) (.int .i64 23) (.int .i64 (-149)) 65).step hb
  clear hb
  obtain ⟨z3, _, b0, b1, b2, b3⟩ := T3.out
  go_wp2_with fail
  refine (HN _).mono ?_
  rintro e w3 ⟨rfl, rfl⟩
  go_wp2
  go_region_held3 (fun _ => True) (trivial) (fail)
  go_wp2_with fail
  refine (HM _).mono ?_
  rintro e w4 ⟨rfl, hb⟩
  have T4 : Hid (ShB w w4 _ _ _ _) := T3.out.drew.step hb
  clear hb b0 b1 b2 b3
  obtain ⟨z4, _, c0, c1, c2, c3⟩ := T4.out
  go_wp2_with fail
  refine (HY _).mono ?_
  rintro e w5 ⟨rfl, hb⟩
  have T5 : Hid (ShB w w5 _ _ _ _) := T4.out.step hb
  clear hb
  go_wp2
  go_ret2
  exact ⟨rfl, T5.out.bel⟩
set_option maxRecDepth 100000 in
set_option maxHeartbeats 1000000 in
theorem near_odd_inf {m s : Nat} {p : Int} (hm : m < 9007199254740992) (hp0 : -1074 ≤ p) (hp1 : p ≤ 971) (hu : min (24 - (ln m : Int)) (p + 149) = -(s : Int)) (s0 : 0 < s) (s1 : s ≤ 2000) (q : ¬ ln m < s) {j Q P R H : Nat} (hj : s = j + 1) (hQ : m / 2 ^ s = Q) (hP : Q * 2 ^ s = P) (hR : m - P = R) (hPm : P ≤ m) (hH : 2 ^ j = H) (g : ¬ H < R) (t1 : ((R : Int) == (H : Int)) = true) (t2 : ((Q : Int) % 2 == 1) = true) (q3 : 104 < p + (s : Int)) (w : World) : Calls Tryd.prog 58 #[.agg #[.int .u64 2147483648, .int .u64 2139095040, .int .i64 23, .int .i64 (-149)], .int .u64 (m : Int), .int .i64 p] w fun e w' => e = .returned (.tuple #[.int .u64 2139095040, .bool false]) ∧ Below w.heap.size w w' := by
  have HR := fun W => room_32 (word_nat (show m < 18446744073709551616 by omega)) (blen_ln m (by omega)) (by omega : -9223372036854775808 ≤ p) (by omega : p ≤ 5000) W
  rw [hu] at HR
  have HN := fun W => len64_any (m : Int) (word_nat (show m < 18446744073709551616 by omega)) W
  rw [blen_ln m (by omega)] at HN
  have l53 : ln m ≤ 53 := (ln_iff m 53).2 hm
  have q' : ¬ (ln m : Int) < (s : Int) := by omega
  have e0 : min s 64 = s := Nat.min_eq_left (by omega)
  have e1 : (m : Int) / 2 ^ min s 64 = (Q : Int) := by rw [e0, ← hQ]; simp
  have e2 : IntKind.u64.wrap ((Q : Int) * 2 ^ min s 64) = (P : Int) := by
    rw [e0, show (Q : Int) * 2 ^ s = ((Q * 2 ^ s : Nat) : Int) by simp, hP, IntKind.wrap_u64]
    omega
  have e3 : IntKind.u64.wrap ((m : Int) - (P : Int)) = (R : Int) := by rw [IntKind.wrap_u64]; omega
  have i1 : IntKind.i64.wrap ((s : Int) - 1) = (j : Int) := by rw [IntKind.wrap_i64]; omega
  have e4 : IntKind.u64.wrap (2 ^ min j 64) = (H : Int) := by
    have : H < 18446744073709551616 := by
      rw [← hH]
      exact Nat.lt_of_le_of_lt (Nat.pow_le_pow_right (by decide) (show j ≤ 63 by omega)) (by decide)
    rw [Nat.min_eq_left (by omega), show (2 : Int) ^ j = ((2 ^ j : Nat) : Int) by simp, hH, IntKind.wrap_u64]
    omega
  have r1 : R < 9007199254740992 := by omega
  have k1 : Q < 9007199254740992 := by rw [← hQ]; exact Nat.lt_of_le_of_lt (Nat.div_le_self _ _) hm
  generalize ln m = n at *
  clear hu e0 hQ hP hR hH hj l53 hPm
  have HM := fun W => most_32 W
  go_enter Tryd.func58, Tryd.ntmps58
  go_wp2_with fail
  refine (HR _).mono ?_
  rintro e w3 ⟨rfl, hb⟩
  have T3 : Hid (ShB w w3 _ _ _ _) := (ShB.start w (.int .u64 2147483648) (.int .u64 2139095040) (.int .i64 23) (.int .i64 (-149)) 65).step hb
  clear hb
  obtain ⟨z3, _, b0, b1, b2, b3⟩ := T3.out
  go_wp2_with fail
  refine (HN _).mono ?_
  rintro e w3 ⟨rfl, rfl⟩
  go_wp2
  go_region_held3 (fun _ => True) (trivial) (fail)
  go_wp2_with fail
  refine (HM _).mono ?_
  rintro e w4 ⟨rfl, hb⟩
  have T4 : Hid (ShB w w4 _ _ _ _) := T3.out.drew.step hb
  clear hb b0 b1 b2 b3
  obtain ⟨z4, _, c0, c1, c2, c3⟩ := T4.out
  go_wp2
  go_ret2
  exact ⟨rfl, T4.out.bel⟩
set_option maxRecDepth 100000 in
set_option maxHeartbeats 1000000 in
theorem near_odd_fin {m s : Nat} {p : Int} (hm : m < 9007199254740992) (hp0 : -1074 ≤ p) (hp1 : p ≤ 971) (hu : min (24 - (ln m : Int)) (p + 149) = -(s : Int)) (s0 : 0 < s) (s1 : s ≤ 2000) (q : ¬ ln m < s) {j Q P R H : Nat} (hj : s = j + 1) (hQ : m / 2 ^ s = Q) (hP : Q * 2 ^ s = P) (hR : m - P = R) (hPm : P ≤ m) (hH : 2 ^ j = H) (g : ¬ H < R) (t1 : ((R : Int) == (H : Int)) = true) (t2 : ((Q : Int) % 2 == 1) = true) (q3 : ¬ 104 < p + (s : Int)) {k : Nat} (hk : p + (s : Int) = -149 + (k : Int)) (hx : (Q + 1) ≤ 16777216) (w : World) : Calls Tryd.prog 58 #[.agg #[.int .u64 2147483648, .int .u64 2139095040, .int .i64 23, .int .i64 (-149)], .int .u64 (m : Int), .int .i64 p] w fun e w' => e = .returned (.tuple #[.int .u64 ((k * 8388608 + (Q + 1) : Nat) : Int), .bool ((R : Int) == 0)]) ∧ Below w.heap.size w w' := by
  have HR := fun W => room_32 (word_nat (show m < 18446744073709551616 by omega)) (blen_ln m (by omega)) (by omega : -9223372036854775808 ≤ p) (by omega : p ≤ 5000) W
  rw [hu] at HR
  have HN := fun W => len64_any (m : Int) (word_nat (show m < 18446744073709551616 by omega)) W
  rw [blen_ln m (by omega)] at HN
  have l53 : ln m ≤ 53 := (ln_iff m 53).2 hm
  have q' : ¬ (ln m : Int) < (s : Int) := by omega
  have e0 : min s 64 = s := Nat.min_eq_left (by omega)
  have e1 : (m : Int) / 2 ^ min s 64 = (Q : Int) := by rw [e0, ← hQ]; simp
  have e2 : IntKind.u64.wrap ((Q : Int) * 2 ^ min s 64) = (P : Int) := by
    rw [e0, show (Q : Int) * 2 ^ s = ((Q * 2 ^ s : Nat) : Int) by simp, hP, IntKind.wrap_u64]
    omega
  have e3 : IntKind.u64.wrap ((m : Int) - (P : Int)) = (R : Int) := by rw [IntKind.wrap_u64]; omega
  have i1 : IntKind.i64.wrap ((s : Int) - 1) = (j : Int) := by rw [IntKind.wrap_i64]; omega
  have e4 : IntKind.u64.wrap (2 ^ min j 64) = (H : Int) := by
    have : H < 18446744073709551616 := by
      rw [← hH]
      exact Nat.lt_of_le_of_lt (Nat.pow_le_pow_right (by decide) (show j ≤ 63 by omega)) (by decide)
    rw [Nat.min_eq_left (by omega), show (2 : Int) ^ j = ((2 ^ j : Nat) : Int) by simp, hH, IntKind.wrap_u64]
    omega
  have r1 : R < 9007199254740992 := by omega
  have k1 : Q < 9007199254740992 := by rw [← hQ]; exact Nat.lt_of_le_of_lt (Nat.div_le_self _ _) hm
  generalize ln m = n at *
  clear hu e0 hQ hP hR hH hj l53 hPm
  have HM := fun W => most_32 W
  have HY := fun W => lay_32 hk (by omega : k ≤ 255) hx W
  generalize k * 8388608 + (Q + 1) = Z at *
  rw [show ((Q + 1 : Nat) : Int) = (Q : Int) + 1 by omega] at HY
  generalize hB : ((R : Int) == 0) = B at *
  clear hk hx
  go_enter Tryd.func58, Tryd.ntmps58
  go_wp2_with fail
  refine (HR _).mono ?_
  rintro e w3 ⟨rfl, hb⟩
  have T3 : Hid (ShB w w3 _ _ _ _) := (ShB.start w (.int .u64 2147483648) (.int .u64 2139095040) (.int .i64 23) (.int .i64 (-149)) 65).step hb
  clear hb
  obtain ⟨z3, _, b0, b1, b2, b3⟩ := T3.out
  go_wp2_with fail
  refine (HN _).mono ?_
  rintro e w3 ⟨rfl, rfl⟩
  go_wp2
  go_region_held3 (fun _ => True) (trivial) (fail)
  go_wp2_with fail
  refine (HM _).mono ?_
  rintro e w4 ⟨rfl, hb⟩
  have T4 : Hid (ShB w w4 _ _ _ _) := T3.out.drew.step hb
  clear hb b0 b1 b2 b3
  obtain ⟨z4, _, c0, c1, c2, c3⟩ := T4.out
  go_wp2_with fail
  refine (HY _).mono ?_
  rintro e w5 ⟨rfl, hb⟩
  have T5 : Hid (ShB w w5 _ _ _ _) := T4.out.step hb
  clear hb
  go_wp2
  go_ret2
  exact ⟨rfl, T5.out.bel⟩
set_option maxRecDepth 100000 in
set_option maxHeartbeats 1000000 in
theorem near_even_inf {m s : Nat} {p : Int} (hm : m < 9007199254740992) (hp0 : -1074 ≤ p) (hp1 : p ≤ 971) (hu : min (24 - (ln m : Int)) (p + 149) = -(s : Int)) (s0 : 0 < s) (s1 : s ≤ 2000) (q : ¬ ln m < s) {j Q P R H : Nat} (hj : s = j + 1) (hQ : m / 2 ^ s = Q) (hP : Q * 2 ^ s = P) (hR : m - P = R) (hPm : P ≤ m) (hH : 2 ^ j = H) (g : ¬ H < R) (t1 : ((R : Int) == (H : Int)) = true) (t2 : ((Q : Int) % 2 == 1) = false) (q3 : 104 < p + (s : Int)) (w : World) : Calls Tryd.prog 58 #[.agg #[.int .u64 2147483648, .int .u64 2139095040, .int .i64 23, .int .i64 (-149)], .int .u64 (m : Int), .int .i64 p] w fun e w' => e = .returned (.tuple #[.int .u64 2139095040, .bool false]) ∧ Below w.heap.size w w' := by
  have HR := fun W => room_32 (word_nat (show m < 18446744073709551616 by omega)) (blen_ln m (by omega)) (by omega : -9223372036854775808 ≤ p) (by omega : p ≤ 5000) W
  rw [hu] at HR
  have HN := fun W => len64_any (m : Int) (word_nat (show m < 18446744073709551616 by omega)) W
  rw [blen_ln m (by omega)] at HN
  have l53 : ln m ≤ 53 := (ln_iff m 53).2 hm
  have q' : ¬ (ln m : Int) < (s : Int) := by omega
  have e0 : min s 64 = s := Nat.min_eq_left (by omega)
  have e1 : (m : Int) / 2 ^ min s 64 = (Q : Int) := by rw [e0, ← hQ]; simp
  have e2 : IntKind.u64.wrap ((Q : Int) * 2 ^ min s 64) = (P : Int) := by
    rw [e0, show (Q : Int) * 2 ^ s = ((Q * 2 ^ s : Nat) : Int) by simp, hP, IntKind.wrap_u64]
    omega
  have e3 : IntKind.u64.wrap ((m : Int) - (P : Int)) = (R : Int) := by rw [IntKind.wrap_u64]; omega
  have i1 : IntKind.i64.wrap ((s : Int) - 1) = (j : Int) := by rw [IntKind.wrap_i64]; omega
  have e4 : IntKind.u64.wrap (2 ^ min j 64) = (H : Int) := by
    have : H < 18446744073709551616 := by
      rw [← hH]
      exact Nat.lt_of_le_of_lt (Nat.pow_le_pow_right (by decide) (show j ≤ 63 by omega)) (by decide)
    rw [Nat.min_eq_left (by omega), show (2 : Int) ^ j = ((2 ^ j : Nat) : Int) by simp, hH, IntKind.wrap_u64]
    omega
  have r1 : R < 9007199254740992 := by omega
  have k1 : Q < 9007199254740992 := by rw [← hQ]; exact Nat.lt_of_le_of_lt (Nat.div_le_self _ _) hm
  generalize ln m = n at *
  clear hu e0 hQ hP hR hH hj l53 hPm
  have HM := fun W => most_32 W
  go_enter Tryd.func58, Tryd.ntmps58
  go_wp2_with fail
  refine (HR _).mono ?_
  rintro e w3 ⟨rfl, hb⟩
  have T3 : Hid (ShB w w3 _ _ _ _) := (ShB.start w (.int .u64 2147483648) (.int .u64 2139095040) (.int .i64 23) (.int .i64 (-149)) 65).step hb
  clear hb
  obtain ⟨z3, _, b0, b1, b2, b3⟩ := T3.out
  go_wp2_with fail
  refine (HN _).mono ?_
  rintro e w3 ⟨rfl, rfl⟩
  go_wp2
  go_region_held3 (fun _ => True) (trivial) (fail)
  go_wp2_with fail
  refine (HM _).mono ?_
  rintro e w4 ⟨rfl, hb⟩
  have T4 : Hid (ShB w w4 _ _ _ _) := T3.out.drew.step hb
  clear hb b0 b1 b2 b3
  obtain ⟨z4, _, c0, c1, c2, c3⟩ := T4.out
  go_wp2
  go_ret2
  exact ⟨rfl, T4.out.bel⟩
set_option maxRecDepth 100000 in
set_option maxHeartbeats 1000000 in
theorem near_even_fin {m s : Nat} {p : Int} (hm : m < 9007199254740992) (hp0 : -1074 ≤ p) (hp1 : p ≤ 971) (hu : min (24 - (ln m : Int)) (p + 149) = -(s : Int)) (s0 : 0 < s) (s1 : s ≤ 2000) (q : ¬ ln m < s) {j Q P R H : Nat} (hj : s = j + 1) (hQ : m / 2 ^ s = Q) (hP : Q * 2 ^ s = P) (hR : m - P = R) (hPm : P ≤ m) (hH : 2 ^ j = H) (g : ¬ H < R) (t1 : ((R : Int) == (H : Int)) = true) (t2 : ((Q : Int) % 2 == 1) = false) (q3 : ¬ 104 < p + (s : Int)) {k : Nat} (hk : p + (s : Int) = -149 + (k : Int)) (hx : Q ≤ 16777216) (w : World) : Calls Tryd.prog 58 #[.agg #[.int .u64 2147483648, .int .u64 2139095040, .int .i64 23, .int .i64 (-149)], .int .u64 (m : Int), .int .i64 p] w fun e w' => e = .returned (.tuple #[.int .u64 ((k * 8388608 + Q : Nat) : Int), .bool ((R : Int) == 0)]) ∧ Below w.heap.size w w' := by
  have HR := fun W => room_32 (word_nat (show m < 18446744073709551616 by omega)) (blen_ln m (by omega)) (by omega : -9223372036854775808 ≤ p) (by omega : p ≤ 5000) W
  rw [hu] at HR
  have HN := fun W => len64_any (m : Int) (word_nat (show m < 18446744073709551616 by omega)) W
  rw [blen_ln m (by omega)] at HN
  have l53 : ln m ≤ 53 := (ln_iff m 53).2 hm
  have q' : ¬ (ln m : Int) < (s : Int) := by omega
  have e0 : min s 64 = s := Nat.min_eq_left (by omega)
  have e1 : (m : Int) / 2 ^ min s 64 = (Q : Int) := by rw [e0, ← hQ]; simp
  have e2 : IntKind.u64.wrap ((Q : Int) * 2 ^ min s 64) = (P : Int) := by
    rw [e0, show (Q : Int) * 2 ^ s = ((Q * 2 ^ s : Nat) : Int) by simp, hP, IntKind.wrap_u64]
    omega
  have e3 : IntKind.u64.wrap ((m : Int) - (P : Int)) = (R : Int) := by rw [IntKind.wrap_u64]; omega
  have i1 : IntKind.i64.wrap ((s : Int) - 1) = (j : Int) := by rw [IntKind.wrap_i64]; omega
  have e4 : IntKind.u64.wrap (2 ^ min j 64) = (H : Int) := by
    have : H < 18446744073709551616 := by
      rw [← hH]
      exact Nat.lt_of_le_of_lt (Nat.pow_le_pow_right (by decide) (show j ≤ 63 by omega)) (by decide)
    rw [Nat.min_eq_left (by omega), show (2 : Int) ^ j = ((2 ^ j : Nat) : Int) by simp, hH, IntKind.wrap_u64]
    omega
  have r1 : R < 9007199254740992 := by omega
  have k1 : Q < 9007199254740992 := by rw [← hQ]; exact Nat.lt_of_le_of_lt (Nat.div_le_self _ _) hm
  generalize ln m = n at *
  clear hu e0 hQ hP hR hH hj l53 hPm
  have HM := fun W => most_32 W
  have HY := fun W => lay_32 hk (by omega : k ≤ 255) hx W
  generalize k * 8388608 + Q = Z at *
  skip
  generalize hB : ((R : Int) == 0) = B at *
  clear hk hx
  go_enter Tryd.func58, Tryd.ntmps58
  go_wp2_with fail
  refine (HR _).mono ?_
  rintro e w3 ⟨rfl, hb⟩
  have T3 : Hid (ShB w w3 _ _ _ _) := (ShB.start w (.int .u64 2147483648) (.int .u64 2139095040) (.int .i64 23) (.int .i64 (-149)) 65).step hb
  clear hb
  obtain ⟨z3, _, b0, b1, b2, b3⟩ := T3.out
  go_wp2_with fail
  refine (HN _).mono ?_
  rintro e w3 ⟨rfl, rfl⟩
  go_wp2
  go_region_held3 (fun _ => True) (trivial) (fail)
  go_wp2_with fail
  refine (HM _).mono ?_
  rintro e w4 ⟨rfl, hb⟩
  have T4 : Hid (ShB w w4 _ _ _ _) := T3.out.drew.step hb
  clear hb b0 b1 b2 b3
  obtain ⟨z4, _, c0, c1, c2, c3⟩ := T4.out
  go_wp2_with fail
  refine (HY _).mono ?_
  rintro e w5 ⟨rfl, hb⟩
  have T5 : Hid (ShB w w5 _ _ _ _) := T4.out.step hb
  clear hb
  go_wp2
  go_ret2
  exact ⟨rfl, T5.out.bel⟩
set_option maxRecDepth 100000 in
set_option maxHeartbeats 1000000 in
theorem near_lt_inf {m s : Nat} {p : Int} (hm : m < 9007199254740992) (hp0 : -1074 ≤ p) (hp1 : p ≤ 971) (hu : min (24 - (ln m : Int)) (p + 149) = -(s : Int)) (s0 : 0 < s) (s1 : s ≤ 2000) (q : ¬ ln m < s) {j Q P R H : Nat} (hj : s = j + 1) (hQ : m / 2 ^ s = Q) (hP : Q * 2 ^ s = P) (hR : m - P = R) (hPm : P ≤ m) (hH : 2 ^ j = H) (g : ¬ H < R) (t1 : ((R : Int) == (H : Int)) = false) (q3 : 104 < p + (s : Int)) (w : World) : Calls Tryd.prog 58 #[.agg #[.int .u64 2147483648, .int .u64 2139095040, .int .i64 23, .int .i64 (-149)], .int .u64 (m : Int), .int .i64 p] w fun e w' => e = .returned (.tuple #[.int .u64 2139095040, .bool false]) ∧ Below w.heap.size w w' := by
  have HR := fun W => room_32 (word_nat (show m < 18446744073709551616 by omega)) (blen_ln m (by omega)) (by omega : -9223372036854775808 ≤ p) (by omega : p ≤ 5000) W
  rw [hu] at HR
  have HN := fun W => len64_any (m : Int) (word_nat (show m < 18446744073709551616 by omega)) W
  rw [blen_ln m (by omega)] at HN
  have l53 : ln m ≤ 53 := (ln_iff m 53).2 hm
  have q' : ¬ (ln m : Int) < (s : Int) := by omega
  have e0 : min s 64 = s := Nat.min_eq_left (by omega)
  have e1 : (m : Int) / 2 ^ min s 64 = (Q : Int) := by rw [e0, ← hQ]; simp
  have e2 : IntKind.u64.wrap ((Q : Int) * 2 ^ min s 64) = (P : Int) := by
    rw [e0, show (Q : Int) * 2 ^ s = ((Q * 2 ^ s : Nat) : Int) by simp, hP, IntKind.wrap_u64]
    omega
  have e3 : IntKind.u64.wrap ((m : Int) - (P : Int)) = (R : Int) := by rw [IntKind.wrap_u64]; omega
  have i1 : IntKind.i64.wrap ((s : Int) - 1) = (j : Int) := by rw [IntKind.wrap_i64]; omega
  have e4 : IntKind.u64.wrap (2 ^ min j 64) = (H : Int) := by
    have : H < 18446744073709551616 := by
      rw [← hH]
      exact Nat.lt_of_le_of_lt (Nat.pow_le_pow_right (by decide) (show j ≤ 63 by omega)) (by decide)
    rw [Nat.min_eq_left (by omega), show (2 : Int) ^ j = ((2 ^ j : Nat) : Int) by simp, hH, IntKind.wrap_u64]
    omega
  have r1 : R < 9007199254740992 := by omega
  have k1 : Q < 9007199254740992 := by rw [← hQ]; exact Nat.lt_of_le_of_lt (Nat.div_le_self _ _) hm
  generalize ln m = n at *
  clear hu e0 hQ hP hR hH hj l53 hPm
  have HM := fun W => most_32 W
  go_enter Tryd.func58, Tryd.ntmps58
  go_wp2_with fail
  refine (HR _).mono ?_
  rintro e w3 ⟨rfl, hb⟩
  have T3 : Hid (ShB w w3 _ _ _ _) := (ShB.start w (.int .u64 2147483648) (.int .u64 2139095040) (.int .i64 23) (.int .i64 (-149)) 65).step hb
  clear hb
  obtain ⟨z3, _, b0, b1, b2, b3⟩ := T3.out
  go_wp2_with fail
  refine (HN _).mono ?_
  rintro e w3 ⟨rfl, rfl⟩
  go_wp2
  go_region_held3 (fun _ => True) (trivial) (fail)
  go_wp2_with fail
  refine (HM _).mono ?_
  rintro e w4 ⟨rfl, hb⟩
  have T4 : Hid (ShB w w4 _ _ _ _) := T3.out.drew.step hb
  clear hb b0 b1 b2 b3
  obtain ⟨z4, _, c0, c1, c2, c3⟩ := T4.out
  go_wp2
  go_ret2
  exact ⟨rfl, T4.out.bel⟩
set_option maxRecDepth 100000 in
set_option maxHeartbeats 1000000 in
theorem near_lt_fin {m s : Nat} {p : Int} (hm : m < 9007199254740992) (hp0 : -1074 ≤ p) (hp1 : p ≤ 971) (hu : min (24 - (ln m : Int)) (p + 149) = -(s : Int)) (s0 : 0 < s) (s1 : s ≤ 2000) (q : ¬ ln m < s) {j Q P R H : Nat} (hj : s = j + 1) (hQ : m / 2 ^ s = Q) (hP : Q * 2 ^ s = P) (hR : m - P = R) (hPm : P ≤ m) (hH : 2 ^ j = H) (g : ¬ H < R) (t1 : ((R : Int) == (H : Int)) = false) (q3 : ¬ 104 < p + (s : Int)) {k : Nat} (hk : p + (s : Int) = -149 + (k : Int)) (hx : Q ≤ 16777216) (w : World) : Calls Tryd.prog 58 #[.agg #[.int .u64 2147483648, .int .u64 2139095040, .int .i64 23, .int .i64 (-149)], .int .u64 (m : Int), .int .i64 p] w fun e w' => e = .returned (.tuple #[.int .u64 ((k * 8388608 + Q : Nat) : Int), .bool ((R : Int) == 0)]) ∧ Below w.heap.size w w' := by
  have HR := fun W => room_32 (word_nat (show m < 18446744073709551616 by omega)) (blen_ln m (by omega)) (by omega : -9223372036854775808 ≤ p) (by omega : p ≤ 5000) W
  rw [hu] at HR
  have HN := fun W => len64_any (m : Int) (word_nat (show m < 18446744073709551616 by omega)) W
  rw [blen_ln m (by omega)] at HN
  have l53 : ln m ≤ 53 := (ln_iff m 53).2 hm
  have q' : ¬ (ln m : Int) < (s : Int) := by omega
  have e0 : min s 64 = s := Nat.min_eq_left (by omega)
  have e1 : (m : Int) / 2 ^ min s 64 = (Q : Int) := by rw [e0, ← hQ]; simp
  have e2 : IntKind.u64.wrap ((Q : Int) * 2 ^ min s 64) = (P : Int) := by
    rw [e0, show (Q : Int) * 2 ^ s = ((Q * 2 ^ s : Nat) : Int) by simp, hP, IntKind.wrap_u64]
    omega
  have e3 : IntKind.u64.wrap ((m : Int) - (P : Int)) = (R : Int) := by rw [IntKind.wrap_u64]; omega
  have i1 : IntKind.i64.wrap ((s : Int) - 1) = (j : Int) := by rw [IntKind.wrap_i64]; omega
  have e4 : IntKind.u64.wrap (2 ^ min j 64) = (H : Int) := by
    have : H < 18446744073709551616 := by
      rw [← hH]
      exact Nat.lt_of_le_of_lt (Nat.pow_le_pow_right (by decide) (show j ≤ 63 by omega)) (by decide)
    rw [Nat.min_eq_left (by omega), show (2 : Int) ^ j = ((2 ^ j : Nat) : Int) by simp, hH, IntKind.wrap_u64]
    omega
  have r1 : R < 9007199254740992 := by omega
  have k1 : Q < 9007199254740992 := by rw [← hQ]; exact Nat.lt_of_le_of_lt (Nat.div_le_self _ _) hm
  generalize ln m = n at *
  clear hu e0 hQ hP hR hH hj l53 hPm
  have HM := fun W => most_32 W
  have HY := fun W => lay_32 hk (by omega : k ≤ 255) hx W
  generalize k * 8388608 + Q = Z at *
  skip
  generalize hB : ((R : Int) == 0) = B at *
  clear hk hx
  go_enter Tryd.func58, Tryd.ntmps58
  go_wp2_with fail
  refine (HR _).mono ?_
  rintro e w3 ⟨rfl, hb⟩
  have T3 : Hid (ShB w w3 _ _ _ _) := (ShB.start w (.int .u64 2147483648) (.int .u64 2139095040) (.int .i64 23) (.int .i64 (-149)) 65).step hb
  clear hb
  obtain ⟨z3, _, b0, b1, b2, b3⟩ := T3.out
  go_wp2_with fail
  refine (HN _).mono ?_
  rintro e w3 ⟨rfl, rfl⟩
  go_wp2
  go_region_held3 (fun _ => True) (trivial) (fail)
  go_wp2_with fail
  refine (HM _).mono ?_
  rintro e w4 ⟨rfl, hb⟩
  have T4 : Hid (ShB w w4 _ _ _ _) := T3.out.drew.step hb
  clear hb b0 b1 b2 b3
  obtain ⟨z4, _, c0, c1, c2, c3⟩ := T4.out
  go_wp2_with fail
  refine (HY _).mono ?_
  rintro e w5 ⟨rfl, hb⟩
  have T5 : Hid (ShB w w5 _ _ _ _) := T4.out.step hb
  clear hb
  go_wp2
  go_ret2
  exact ⟨rfl, T5.out.bel⟩
end Go.Proofs.YtdejfjlcknfbbaaDoor
