/-
  bits' exactly over a shape, at both sizes: the float that a number times a power of two is, or the error.
-/
import Derived.Test.YtealnajogkeckaaDoorBtG
import Derived.Test.YtealnajogkeckaaDoorBtK
import Derived.Test.YtealnajogkeckaaDoorBtZ
namespace Go.Proofs.YtealnajogkeckaaDoor
open Go.RowKit

theorem blen_ln (m : Nat) (h : m < 18446744073709551616) : blen (m : Int) = (ln m : Int) := by
  by_cases z : m = 0
  · subst z; decide
  · obtain ⟨n, a, _, b, c⟩ := blen_bounds (m : Int) (by omega) (by omega)
    rw [a, ln_of (m := m) (k := n) (by exact_mod_cast b) (by exact_mod_cast c)]
    omega
theorem word_nat {m : Nat} (h : m < 18446744073709551616) : Word (m : Int) := ⟨by omega, by omega⟩

set_option maxRecDepth 100000 in
set_option maxHeartbeats 1000000 in
theorem exact_zero_32 (p : Int) (w : World) : Calls Tryd.prog 107 #[.agg #[.int .u64 2147483648, .int .u64 2139095040, .int .i64 23, .int .i64 (-149)], .int .u64 0, .int .i64 p] w fun e w' => e = .returned (.tuple #[.int .u64 0, .iface 76 (.int .i64 1)]) ∧ Below w.heap.size w w' := by
  go_enter Tryd.func107, Tryd.ntmps107
  go_wp2
  go_ret2
  exact ⟨rfl, (Below.refl _ _).alloc (Nat.le_refl _) _⟩
set_option maxRecDepth 100000 in
set_option maxHeartbeats 1000000 in
theorem exact_high_32 {m : Nat} {p : Int} (m0 : ((m : Int) == 0) = false) (h : 127 < p) (w : World) : Calls Tryd.prog 107 #[.agg #[.int .u64 2147483648, .int .u64 2139095040, .int .i64 23, .int .i64 (-149)], .int .u64 (m : Int), .int .i64 p] w fun e w' => e = .returned (.tuple #[.int .u64 0, .iface 76 (.int .i64 4)]) ∧ Below w.heap.size w w' := by
  have HM := fun W => most_32 W
  have i1 : IntKind.i64.wrap 127 = 127 := by decide
  go_enter Tryd.func107, Tryd.ntmps107
  go_wp2
  go_region_held3 (fun w' => w'.cell? ⟨w.heap.size, 0, none⟩ = some (.int .u64 2147483648) ∧ w'.cell? ⟨w.heap.size, 1, none⟩ = some (.int .u64 2139095040) ∧ w'.cell? ⟨w.heap.size, 2, none⟩ = some (.int .i64 23) ∧ w'.cell? ⟨w.heap.size, 3, none⟩ = some (.int .i64 (-149))) (simp [*, go_sem])
    (first
      | (go_at_call 115; refine (HM _).mono ?_; rintro x1 w2 ⟨rfl, hb⟩; have T2 : Hid (ShB w w2 _ _ _ _) := (ShB.start w (.int .u64 2147483648) (.int .u64 2139095040) (.int .i64 23) (.int .i64 (-149)) 123).drew.step hb; clear hb; obtain ⟨z2, _, a0, a1, a2, a3⟩ := T2.out))
  go_wp2
  go_ret2
  exact ⟨rfl, T2.out.bel⟩
set_option maxRecDepth 100000 in
set_option maxHeartbeats 1000000 in
theorem exact_low_32 {m : Nat} {p : Int} (hm : m < 18446744073709551616) (m0 : ((m : Int) == 0) = false) (hp0 : -9223372036854775808 ≤ p) (hp : ¬ 127 < p) {u : Int} {z : Nat} (hu : min (24 - (ln m : Int)) (p + 149) = u) (hz : ctzW (m : Int) = (z : Int)) (q : (z : Int) < -u) (w : World) (hT : Tab w) : Calls Tryd.prog 107 #[.agg #[.int .u64 2147483648, .int .u64 2139095040, .int .i64 23, .int .i64 (-149)], .int .u64 (m : Int), .int .i64 p] w fun e w' => e = .returned (.tuple #[.int .u64 0, .iface 76 (.int .i64 4)]) ∧ Below w.heap.size w w' := by
  have HM := fun W => most_32 W
  have HR := fun W => room_32 (word_nat hm) (blen_ln m hm) hp0 (by omega : p ≤ 5000) W
  have HZ := fun W (g : Tab W) => tz64_any (m : Int) (word_nat hm) W g
  have HT : Hid (Tab w) := hT
  rw [hz] at HZ
  rw [hu] at HR
  have i1 : IntKind.i64.wrap 127 = 127 := by decide
  clear hT
  have u0 : -9223372036854775807 ≤ u := by have := (ln_iff m 64).2 hm; omega
  have u1 : u ≤ 24 := by omega
  clear hu hz hm
  go_enter Tryd.func107, Tryd.ntmps107
  go_wp2
  go_region_held3 (fun w' => w'.cell? ⟨w.heap.size, 0, none⟩ = some (.int .u64 2147483648) ∧ w'.cell? ⟨w.heap.size, 1, none⟩ = some (.int .u64 2139095040) ∧ w'.cell? ⟨w.heap.size, 2, none⟩ = some (.int .i64 23) ∧ w'.cell? ⟨w.heap.size, 3, none⟩ = some (.int .i64 (-149))) (simp [*, go_sem])
    (first
      | (go_at_call 115; refine (HM _).mono ?_; rintro x1 w2 ⟨rfl, hb⟩; have T2 : Hid (ShB w w2 _ _ _ _) := (ShB.start w (.int .u64 2147483648) (.int .u64 2139095040) (.int .i64 23) (.int .i64 (-149)) 123).drew.step hb; clear hb; obtain ⟨z2, _, a0, a1, a2, a3⟩ := T2.out))
  go_wp2_with fail
  refine (HR _).mono ?_
  rintro e w3 ⟨rfl, hb⟩
  have T3 : Hid (ShB w w3 _ _ _ _) := T2.out.step hb
  clear hb a0 a1 a2 a3
  obtain ⟨z3, _, b0, b1, b2, b3⟩ := T3.out
  go_wp2_with fail
  refine (HZ _ (HT.out.below T3.out.bel HT.out.pos)).mono ?_
  rintro e w3 ⟨rfl, rfl⟩
  go_wp2
  go_ret2
  exact ⟨rfl, T3.out.bel⟩
set_option maxRecDepth 100000 in
set_option maxHeartbeats 1000000 in
theorem exact_top_32 {m : Nat} {p : Int} (hm : m < 18446744073709551616) (m0 : ((m : Int) == 0) = false) (hp0 : -9223372036854775808 ≤ p) (hp : ¬ 127 < p) {u : Int} {z : Nat} (hu : min (24 - (ln m : Int)) (p + 149) = u) (hz : ctzW (m : Int) = (z : Int)) (q : ¬ (z : Int) < -u) (q2 : 104 < p - u) (w : World) (hT : Tab w) : Calls Tryd.prog 107 #[.agg #[.int .u64 2147483648, .int .u64 2139095040, .int .i64 23, .int .i64 (-149)], .int .u64 (m : Int), .int .i64 p] w fun e w' => e = .returned (.tuple #[.int .u64 0, .iface 76 (.int .i64 4)]) ∧ Below w.heap.size w w' := by
  have HM := fun W => most_32 W
  have HR := fun W => room_32 (word_nat hm) (blen_ln m hm) hp0 (by omega : p ≤ 5000) W
  have HZ := fun W (g : Tab W) => tz64_any (m : Int) (word_nat hm) W g
  have HT : Hid (Tab w) := hT
  rw [hz] at HZ
  rw [hu] at HR
  have i1 : IntKind.i64.wrap 127 = 127 := by decide
  clear hT
  have u0 : -9223372036854775807 ≤ u := by have := (ln_iff m 64).2 hm; omega
  have u1 : u ≤ 24 := by omega
  have v0 : -100000 ≤ p - u := by have := (ln_iff m 64).2 hm; omega
  have v1 : p - u ≤ 100000 := by have := (ln_iff m 64).2 hm; omega
  clear hu hz hm
  go_enter Tryd.func107, Tryd.ntmps107
  go_wp2
  go_region_held3 (fun w' => w'.cell? ⟨w.heap.size, 0, none⟩ = some (.int .u64 2147483648) ∧ w'.cell? ⟨w.heap.size, 1, none⟩ = some (.int .u64 2139095040) ∧ w'.cell? ⟨w.heap.size, 2, none⟩ = some (.int .i64 23) ∧ w'.cell? ⟨w.heap.size, 3, none⟩ = some (.int .i64 (-149))) (simp [*, go_sem])
    (first
      | (go_at_call 115; refine (HM _).mono ?_; rintro x1 w2 ⟨rfl, hb⟩; have T2 : Hid (ShB w w2 _ _ _ _) := (ShB.start w (.int .u64 2147483648) (.int .u64 2139095040) (.int .i64 23) (.int .i64 (-149)) 123).drew.step hb; clear hb; obtain ⟨z2, _, a0, a1, a2, a3⟩ := T2.out))
  go_wp2_with fail
  refine (HR _).mono ?_
  rintro e w3 ⟨rfl, hb⟩
  have T3 : Hid (ShB w w3 _ _ _ _) := T2.out.step hb
  clear hb a0 a1 a2 a3
  obtain ⟨z3, _, b0, b1, b2, b3⟩ := T3.out
  go_wp2_with fail
  refine (HZ _ (HT.out.below T3.out.bel HT.out.pos)).mono ?_
  rintro e w3 ⟨rfl, rfl⟩
  go_wp2_with fail
  refine (HM _).mono ?_
  rintro e w4 ⟨rfl, hb⟩
  have T4 : Hid (ShB w w4 _ _ _ _) := T3.out.step hb
  clear hb b0 b1 b2 b3
  obtain ⟨z4, _, c0, c1, c2, c3⟩ := T4.out
  go_wp2
  go_ret2
  exact ⟨rfl, T4.out.bel⟩
set_option maxRecDepth 100000 in
set_option maxHeartbeats 1000000 in
theorem exact_up_32 {m : Nat} {p : Int} (hm : m < 18446744073709551616) (m0 : ((m : Int) == 0) = false) (hp0 : -9223372036854775808 ≤ p) (hp : ¬ 127 < p) {u : Int} {z : Nat} (hu : min (24 - (ln m : Int)) (p + 149) = u) (hz : ctzW (m : Int) = (z : Int)) (q : ¬ (z : Int) < -u) (q2 : ¬ 104 < p - u) (g : 0 < u) {X : Nat} (hX : (m : Int) * 2 ^ u.toNat = (X : Int)) (hx : X ≤ 16777216) {k : Nat} (hk : p - u = (-149) + (k : Int)) (hk2 : k ≤ 255) (w : World) (hT : Tab w) : Calls Tryd.prog 107 #[.agg #[.int .u64 2147483648, .int .u64 2139095040, .int .i64 23, .int .i64 (-149)], .int .u64 (m : Int), .int .i64 p] w fun e w' => e = .returned (.tuple #[.int .u64 ((k * 8388608 + X : Nat) : Int), .nilIface]) ∧ Below w.heap.size w w' := by
  have HM := fun W => most_32 W
  have HR := fun W => room_32 (word_nat hm) (blen_ln m hm) hp0 (by omega : p ≤ 5000) W
  have HZ := fun W (g : Tab W) => tz64_any (m : Int) (word_nat hm) W g
  have HT : Hid (Tab w) := hT
  rw [hz] at HZ
  rw [hu] at HR
  have i1 : IntKind.i64.wrap 127 = 127 := by decide
  clear hT
  have u0 : -9223372036854775807 ≤ u := by have := (ln_iff m 64).2 hm; omega
  have u1 : u ≤ 24 := by omega
  have v0 : -100000 ≤ p - u := by have := (ln_iff m 64).2 hm; omega
  have v1 : p - u ≤ 100000 := by have := (ln_iff m 64).2 hm; omega
  have HY := fun W => lay_32 hk hk2 hx W
  have g1 : ¬ u < 0 := by omega
  have g2 : 0 ≤ u := by omega
  have g3 : -u < 0 := by omega
  have e1 : IntKind.i64.wrap (-u) = -u := IntWalk.i64_in _ ⟨by omega, by omega⟩
  have s1 : IntKind.u64.wrap ((m : Int) * 2 ^ u.toNat) = (X : Int) := by rw [hX, IntKind.wrap_u64]; omega
  have x1 : (if u < 0 then 0 else u) = u := if_neg g1
  have x2 : (if -u < 0 then 0 else -u) = 0 := if_pos g3
  have e2 : IntKind.i64.wrap (p - u) = p - u := IntWalk.i64_in _ ⟨by omega, by omega⟩
  clear hX
  generalize k * 8388608 + X = R at *
  clear hu hz hm hk
  go_enter Tryd.func107, Tryd.ntmps107
  go_wp2
  go_region_held3 (fun w' => w'.cell? ⟨w.heap.size, 0, none⟩ = some (.int .u64 2147483648) ∧ w'.cell? ⟨w.heap.size, 1, none⟩ = some (.int .u64 2139095040) ∧ w'.cell? ⟨w.heap.size, 2, none⟩ = some (.int .i64 23) ∧ w'.cell? ⟨w.heap.size, 3, none⟩ = some (.int .i64 (-149))) (simp [*, go_sem])
    (first
      | (go_at_call 115; refine (HM _).mono ?_; rintro x1 w2 ⟨rfl, hb⟩; have T2 : Hid (ShB w w2 _ _ _ _) := (ShB.start w (.int .u64 2147483648) (.int .u64 2139095040) (.int .i64 23) (.int .i64 (-149)) 123).drew.step hb; clear hb; obtain ⟨z2, _, a0, a1, a2, a3⟩ := T2.out))
  go_wp2_with fail
  refine (HR _).mono ?_
  rintro e w3 ⟨rfl, hb⟩
  have T3 : Hid (ShB w w3 _ _ _ _) := T2.out.step hb
  clear hb a0 a1 a2 a3
  obtain ⟨z3, _, b0, b1, b2, b3⟩ := T3.out
  go_wp2_with fail
  refine (HZ _ (HT.out.below T3.out.bel HT.out.pos)).mono ?_
  rintro e w3 ⟨rfl, rfl⟩
  go_wp2_with fail
  refine (HM _).mono ?_
  rintro e w4 ⟨rfl, hb⟩
  have T4 : Hid (ShB w w4 _ _ _ _) := T3.out.step hb
  clear hb b0 b1 b2 b3
  obtain ⟨z4, _, c0, c1, c2, c3⟩ := T4.out
  go_wp2
  go_region_held3 (fun w' => w'.cell? ⟨w.heap.size, 0, none⟩ = some (.int .u64 2147483648) ∧ w'.cell? ⟨w.heap.size, 1, none⟩ = some (.int .u64 2139095040) ∧ w'.cell? ⟨w.heap.size, 2, none⟩ = some (.int .i64 23) ∧ w'.cell? ⟨w.heap.size, 3, none⟩ = some (.int .i64 (-149))) (simp [*, go_sem])
    (first
      | (go_at_call 117; refine (HY _).mono ?_; rintro x5 w5 ⟨rfl, hb⟩; have T5 : Hid (ShB w w5 _ _ _ _) := T4.out.drew.step hb; clear hb; obtain ⟨z5, _, d0, d1, d2, d3⟩ := T5.out))
  all_goals
    go_wp2
    go_ret2
    exact ⟨rfl, T5.out.bel⟩
set_option maxRecDepth 100000 in
set_option maxHeartbeats 1000000 in
theorem exact_down_32 {m : Nat} {p : Int} (hm : m < 18446744073709551616) (m0 : ((m : Int) == 0) = false) (hp0 : -9223372036854775808 ≤ p) (hp : ¬ 127 < p) {v : Int} {z : Nat} (hu : min (24 - (ln m : Int)) (p + 149) = (-v)) (hz : ctzW (m : Int) = (z : Int)) (q : ¬ (z : Int) < v) (q2 : ¬ 104 < p + v) (g : 0 < v) (z1 : z < 64) {X : Nat} (hX : (m : Int) / 2 ^ v.toNat = (X : Int)) (hx : X ≤ 16777216) {k : Nat} (hk : p + v = (-149) + (k : Int)) (hk2 : k ≤ 255) (w : World) (hT : Tab w) : Calls Tryd.prog 107 #[.agg #[.int .u64 2147483648, .int .u64 2139095040, .int .i64 23, .int .i64 (-149)], .int .u64 (m : Int), .int .i64 p] w fun e w' => e = .returned (.tuple #[.int .u64 ((k * 8388608 + X : Nat) : Int), .nilIface]) ∧ Below w.heap.size w w' := by
  have HM := fun W => most_32 W
  have HR := fun W => room_32 (word_nat hm) (blen_ln m hm) hp0 (by omega : p ≤ 5000) W
  have HZ := fun W (g : Tab W) => tz64_any (m : Int) (word_nat hm) W g
  have HT : Hid (Tab w) := hT
  rw [hz] at HZ
  rw [hu] at HR
  have i1 : IntKind.i64.wrap 127 = 127 := by decide
  clear hT
  have u0 : -9223372036854775807 ≤ (-v) := by have := (ln_iff m 64).2 hm; omega
  have u1 : (-v) ≤ 24 := by omega
  have v0 : -100000 ≤ p + v := by have := (ln_iff m 64).2 hm; omega
  have v1 : p + v ≤ 100000 := by have := (ln_iff m 64).2 hm; omega
  have HY := fun W => lay_32 hk hk2 hx W
  have g1 : ¬ v < 0 := by omega
  have g2 : 0 ≤ v := by omega
  have g3 : -v < 0 := by omega
  have e1 : IntKind.i64.wrap v = v := IntWalk.i64_in _ ⟨by omega, by omega⟩
  have s0 : IntKind.u64.wrap (m : Int) = (m : Int) := by rw [IntKind.wrap_u64]; omega
  have s1 : (m : Int) / 2 ^ min v.toNat 64 = (X : Int) := by rw [Nat.min_eq_left (by omega), hX]
  have x1 : (if -v < 0 then 0 else -v) = 0 := if_pos g3
  have x2 : (if v < 0 then 0 else v) = v := if_neg g1
  have e2 : IntKind.i64.wrap (p + v) = p + v := IntWalk.i64_in _ ⟨by omega, by omega⟩
  clear hX z1
  generalize k * 8388608 + X = R at *
  clear hu hz hm hk
  go_enter Tryd.func107, Tryd.ntmps107
  go_wp2
  go_region_held3 (fun w' => w'.cell? ⟨w.heap.size, 0, none⟩ = some (.int .u64 2147483648) ∧ w'.cell? ⟨w.heap.size, 1, none⟩ = some (.int .u64 2139095040) ∧ w'.cell? ⟨w.heap.size, 2, none⟩ = some (.int .i64 23) ∧ w'.cell? ⟨w.heap.size, 3, none⟩ = some (.int .i64 (-149))) (simp [*, go_sem])
    (first
      | (go_at_call 115; refine (HM _).mono ?_; rintro x1 w2 ⟨rfl, hb⟩; have T2 : Hid (ShB w w2 _ _ _ _) := (ShB.start w (.int .u64 2147483648) (.int .u64 2139095040) (.int .i64 23) (.int .i64 (-149)) 123).drew.step hb; clear hb; obtain ⟨z2, _, a0, a1, a2, a3⟩ := T2.out))
  go_wp2_with fail
  refine (HR _).mono ?_
  rintro e w3 ⟨rfl, hb⟩
  have T3 : Hid (ShB w w3 _ _ _ _) := T2.out.step hb
  clear hb a0 a1 a2 a3
  obtain ⟨z3, _, b0, b1, b2, b3⟩ := T3.out
  go_wp2_with fail
  refine (HZ _ (HT.out.below T3.out.bel HT.out.pos)).mono ?_
  rintro e w3 ⟨rfl, rfl⟩
  go_wp2_with fail
  refine (HM _).mono ?_
  rintro e w4 ⟨rfl, hb⟩
  have T4 : Hid (ShB w w4 _ _ _ _) := T3.out.step hb
  clear hb b0 b1 b2 b3
  obtain ⟨z4, _, c0, c1, c2, c3⟩ := T4.out
  go_wp2
  go_region_held3 (fun w' => w'.cell? ⟨w.heap.size, 0, none⟩ = some (.int .u64 2147483648) ∧ w'.cell? ⟨w.heap.size, 1, none⟩ = some (.int .u64 2139095040) ∧ w'.cell? ⟨w.heap.size, 2, none⟩ = some (.int .i64 23) ∧ w'.cell? ⟨w.heap.size, 3, none⟩ = some (.int .i64 (-149))) (simp [*, go_sem])
    (first
      | (go_at_call 117; refine (HY _).mono ?_; rintro x5 w5 ⟨rfl, hb⟩; have T5 : Hid (ShB w w5 _ _ _ _) := T4.out.drew.step hb; clear hb; obtain ⟨z5, _, d0, d1, d2, d3⟩ := T5.out))
  all_goals
    go_wp2
    go_ret2
    exact ⟨rfl, T5.out.bel⟩
set_option maxRecDepth 100000 in
set_option maxHeartbeats 1000000 in
theorem exact_even_32 {m : Nat} {p : Int} (hm : m < 18446744073709551616) (m0 : ((m : Int) == 0) = false) (hp0 : -9223372036854775808 ≤ p) (hp : ¬ 127 < p) {z : Nat} (hu : min (24 - (ln m : Int)) (p + 149) = 0) (hz : ctzW (m : Int) = (z : Int)) (q : 0 ≤ z) (q2 : ¬ 104 < p) {X : Nat} (hX : m = X) (hx : X ≤ 16777216) {k : Nat} (hk : p = (-149) + (k : Int)) (hk2 : k ≤ 255) (w : World) (hT : Tab w) : Calls Tryd.prog 107 #[.agg #[.int .u64 2147483648, .int .u64 2139095040, .int .i64 23, .int .i64 (-149)], .int .u64 (m : Int), .int .i64 p] w fun e w' => e = .returned (.tuple #[.int .u64 ((k * 8388608 + X : Nat) : Int), .nilIface]) ∧ Below w.heap.size w w' := by
  have HM := fun W => most_32 W
  have HR := fun W => room_32 (word_nat hm) (blen_ln m hm) hp0 (by omega : p ≤ 5000) W
  have HZ := fun W (g : Tab W) => tz64_any (m : Int) (word_nat hm) W g
  have HT : Hid (Tab w) := hT
  rw [hz] at HZ
  rw [hu] at HR
  have i1 : IntKind.i64.wrap 127 = 127 := by decide
  clear hT
  have u0 : -9223372036854775807 ≤ 0 := by have := (ln_iff m 64).2 hm; omega
  have u1 : 0 ≤ 24 := by omega
  have v0 : -100000 ≤ p := by have := (ln_iff m 64).2 hm; omega
  have v1 : p ≤ 100000 := by have := (ln_iff m 64).2 hm; omega
  have HY := fun W => lay_32 hk hk2 hx W
  subst hX
  have s0 : IntKind.u64.wrap (m : Int) = (m : Int) := by rw [IntKind.wrap_u64]; omega
  have i0 : IntKind.i64.wrap 0 = 0 := by decide
  have e2 : IntKind.i64.wrap p = p := IntWalk.i64_in _ ⟨by omega, by omega⟩
  generalize k * 8388608 + m = R at *
  clear hu hz hm hk
  go_enter Tryd.func107, Tryd.ntmps107
  go_wp2
  go_region_held3 (fun w' => w'.cell? ⟨w.heap.size, 0, none⟩ = some (.int .u64 2147483648) ∧ w'.cell? ⟨w.heap.size, 1, none⟩ = some (.int .u64 2139095040) ∧ w'.cell? ⟨w.heap.size, 2, none⟩ = some (.int .i64 23) ∧ w'.cell? ⟨w.heap.size, 3, none⟩ = some (.int .i64 (-149))) (simp [*, go_sem])
    (first
      | (go_at_call 115; refine (HM _).mono ?_; rintro x1 w2 ⟨rfl, hb⟩; have T2 : Hid (ShB w w2 _ _ _ _) := (ShB.start w (.int .u64 2147483648) (.int .u64 2139095040) (.int .i64 23) (.int .i64 (-149)) 123).drew.step hb; clear hb; obtain ⟨z2, _, a0, a1, a2, a3⟩ := T2.out))
  go_wp2_with fail
  refine (HR _).mono ?_
  rintro e w3 ⟨rfl, hb⟩
  have T3 : Hid (ShB w w3 _ _ _ _) := T2.out.step hb
  clear hb a0 a1 a2 a3
  obtain ⟨z3, _, b0, b1, b2, b3⟩ := T3.out
  go_wp2_with fail
  refine (HZ _ (HT.out.below T3.out.bel HT.out.pos)).mono ?_
  rintro e w3 ⟨rfl, rfl⟩
  go_wp2_with fail
  refine (HM _).mono ?_
  rintro e w4 ⟨rfl, hb⟩
  have T4 : Hid (ShB w w4 _ _ _ _) := T3.out.step hb
  clear hb b0 b1 b2 b3
  obtain ⟨z4, _, c0, c1, c2, c3⟩ := T4.out
  go_wp2
  go_region_held3 (fun w' => w'.cell? ⟨w.heap.size, 0, none⟩ = some (.int .u64 2147483648) ∧ w'.cell? ⟨w.heap.size, 1, none⟩ = some (.int .u64 2139095040) ∧ w'.cell? ⟨w.heap.size, 2, none⟩ = some (.int .i64 23) ∧ w'.cell? ⟨w.heap.size, 3, none⟩ = some (.int .i64 (-149))) (simp [*, go_sem])
    (first
      | (go_at_call 117; refine (HY _).mono ?_; rintro x5 w5 ⟨rfl, hb⟩; have T5 : Hid (ShB w w5 _ _ _ _) := T4.out.drew.step hb; clear hb; obtain ⟨z5, _, d0, d1, d2, d3⟩ := T5.out))
  all_goals
    go_wp2
    go_ret2
    exact ⟨rfl, T5.out.bel⟩
set_option maxRecDepth 100000 in
set_option maxHeartbeats 1000000 in
theorem exact_zero_64 (p : Int) (w : World) : Calls Tryd.prog 107 #[.agg #[.int .u64 9223372036854775808, .int .u64 9218868437227405312, .int .i64 52, .int .i64 (-1074)], .int .u64 0, .int .i64 p] w fun e w' => e = .returned (.tuple #[.int .u64 0, .iface 76 (.int .i64 1)]) ∧ Below w.heap.size w w' := by
  go_enter Tryd.func107, Tryd.ntmps107
  go_wp2
  go_ret2
  exact ⟨rfl, (Below.refl _ _).alloc (Nat.le_refl _) _⟩
set_option maxRecDepth 100000 in
set_option maxHeartbeats 1000000 in
theorem exact_high_64 {m : Nat} {p : Int} (m0 : ((m : Int) == 0) = false) (h : 1023 < p) (w : World) : Calls Tryd.prog 107 #[.agg #[.int .u64 9223372036854775808, .int .u64 9218868437227405312, .int .i64 52, .int .i64 (-1074)], .int .u64 (m : Int), .int .i64 p] w fun e w' => e = .returned (.tuple #[.int .u64 0, .iface 76 (.int .i64 4)]) ∧ Below w.heap.size w w' := by
  have HM := fun W => most_64 W
  have i1 : IntKind.i64.wrap 1023 = 1023 := by decide
  go_enter Tryd.func107, Tryd.ntmps107
  go_wp2
  go_region_held3 (fun w' => w'.cell? ⟨w.heap.size, 0, none⟩ = some (.int .u64 9223372036854775808) ∧ w'.cell? ⟨w.heap.size, 1, none⟩ = some (.int .u64 9218868437227405312) ∧ w'.cell? ⟨w.heap.size, 2, none⟩ = some (.int .i64 52) ∧ w'.cell? ⟨w.heap.size, 3, none⟩ = some (.int .i64 (-1074))) (simp [*, go_sem])
    (first
      | (go_at_call 115; refine (HM _).mono ?_; rintro x1 w2 ⟨rfl, hb⟩; have T2 : Hid (ShB w w2 _ _ _ _) := (ShB.start w (.int .u64 9223372036854775808) (.int .u64 9218868437227405312) (.int .i64 52) (.int .i64 (-1074)) 123).drew.step hb; clear hb; obtain ⟨z2, _, a0, a1, a2, a3⟩ := T2.out))
  go_wp2
  go_ret2
  exact ⟨rfl, T2.out.bel⟩
set_option maxRecDepth 100000 in
set_option maxHeartbeats 1000000 in
theorem exact_low_64 {m : Nat} {p : Int} (hm : m < 18446744073709551616) (m0 : ((m : Int) == 0) = false) (hp0 : -9223372036854775808 ≤ p) (hp : ¬ 1023 < p) {u : Int} {z : Nat} (hu : min (53 - (ln m : Int)) (p + 1074) = u) (hz : ctzW (m : Int) = (z : Int)) (q : (z : Int) < -u) (w : World) (hT : Tab w) : Calls Tryd.prog 107 #[.agg #[.int .u64 9223372036854775808, .int .u64 9218868437227405312, .int .i64 52, .int .i64 (-1074)], .int .u64 (m : Int), .int .i64 p] w fun e w' => e = .returned (.tuple #[.int .u64 0, .iface 76 (.int .i64 4)]) ∧ Below w.heap.size w w' := by
  have HM := fun W => most_64 W
  have HR := fun W => room_64 (word_nat hm) (blen_ln m hm) hp0 (by omega : p ≤ 5000) W
  have HZ := fun W (g : Tab W) => tz64_any (m : Int) (word_nat hm) W g
  have HT : Hid (Tab w) := hT
  rw [hz] at HZ
  rw [hu] at HR
  have i1 : IntKind.i64.wrap 1023 = 1023 := by decide
  clear hT
  have u0 : -9223372036854775807 ≤ u := by have := (ln_iff m 64).2 hm; omega
  have u1 : u ≤ 53 := by omega
  clear hu hz hm
  go_enter Tryd.func107, Tryd.ntmps107
  go_wp2
  go_region_held3 (fun w' => w'.cell? ⟨w.heap.size, 0, none⟩ = some (.int .u64 9223372036854775808) ∧ w'.cell? ⟨w.heap.size, 1, none⟩ = some (.int .u64 9218868437227405312) ∧ w'.cell? ⟨w.heap.size, 2, none⟩ = some (.int .i64 52) ∧ w'.cell? ⟨w.heap.size, 3, none⟩ = some (.int .i64 (-1074))) (simp [*, go_sem])
    (first
      | (go_at_call 115; refine (HM _).mono ?_; rintro x1 w2 ⟨rfl, hb⟩; have T2 : Hid (ShB w w2 _ _ _ _) := (ShB.start w (.int .u64 9223372036854775808) (.int .u64 9218868437227405312) (.int .i64 52) (.int .i64 (-1074)) 123).drew.step hb; clear hb; obtain ⟨z2, _, a0, a1, a2, a3⟩ := T2.out))
  go_wp2_with fail
  refine (HR _).mono ?_
  rintro e w3 ⟨rfl, hb⟩
  have T3 : Hid (ShB w w3 _ _ _ _) := T2.out.step hb
  clear hb a0 a1 a2 a3
  obtain ⟨z3, _, b0, b1, b2, b3⟩ := T3.out
  go_wp2_with fail
  refine (HZ _ (HT.out.below T3.out.bel HT.out.pos)).mono ?_
  rintro e w3 ⟨rfl, rfl⟩
  go_wp2
  go_ret2
  exact ⟨rfl, T3.out.bel⟩
set_option maxRecDepth 100000 in
set_option maxHeartbeats 1000000 in
theorem exact_top_64 {m : Nat} {p : Int} (hm : m < 18446744073709551616) (m0 : ((m : Int) == 0) = false) (hp0 : -9223372036854775808 ≤ p) (hp : ¬ 1023 < p) {u : Int} {z : Nat} (hu : min (53 - (ln m : Int)) (p + 1074) = u) (hz : ctzW (m : Int) = (z : Int)) (q : ¬ (z : Int) < -u) (q2 : 971 < p - u) (w : World) (hT : Tab w) : Calls Tryd.prog 107 #[.agg #[.int .u64 9223372036854775808, .int .u64 9218868437227405312, .int .i64 52, .int .i64 (-1074)], .int .u64 (m : Int), .int .i64 p] w fun e w' => e = .returned (.tuple #[.int .u64 0, .iface 76 (.int .i64 4)]) ∧ Below w.heap.size w w' := by
  have HM := fun W => most_64 W
  have HR := fun W => room_64 (word_nat hm) (blen_ln m hm) hp0 (by omega : p ≤ 5000) W
  have HZ := fun W (g : Tab W) => tz64_any (m : Int) (word_nat hm) W g
  have HT : Hid (Tab w) := hT
  rw [hz] at HZ
  rw [hu] at HR
  have i1 : IntKind.i64.wrap 1023 = 1023 := by decide
  clear hT
  have u0 : -9223372036854775807 ≤ u := by have := (ln_iff m 64).2 hm; omega
  have u1 : u ≤ 53 := by omega
  have v0 : -100000 ≤ p - u := by have := (ln_iff m 64).2 hm; omega
  have v1 : p - u ≤ 100000 := by have := (ln_iff m 64).2 hm; omega
  clear hu hz hm
  go_enter Tryd.func107, Tryd.ntmps107
  go_wp2
  go_region_held3 (fun w' => w'.cell? ⟨w.heap.size, 0, none⟩ = some (.int .u64 9223372036854775808) ∧ w'.cell? ⟨w.heap.size, 1, none⟩ = some (.int .u64 9218868437227405312) ∧ w'.cell? ⟨w.heap.size, 2, none⟩ = some (.int .i64 52) ∧ w'.cell? ⟨w.heap.size, 3, none⟩ = some (.int .i64 (-1074))) (simp [*, go_sem])
    (first
      | (go_at_call 115; refine (HM _).mono ?_; rintro x1 w2 ⟨rfl, hb⟩; have T2 : Hid (ShB w w2 _ _ _ _) := (ShB.start w (.int .u64 9223372036854775808) (.int .u64 9218868437227405312) (.int .i64 52) (.int .i64 (-1074)) 123).drew.step hb; clear hb; obtain ⟨z2, _, a0, a1, a2, a3⟩ := T2.out))
  go_wp2_with fail
  refine (HR _).mono ?_
  rintro e w3 ⟨rfl, hb⟩
  have T3 : Hid (ShB w w3 _ _ _ _) := T2.out.step hb
  clear hb a0 a1 a2 a3
  obtain ⟨z3, _, b0, b1, b2, b3⟩ := T3.out
  go_wp2_with fail
  refine (HZ _ (HT.out.below T3.out.bel HT.out.pos)).mono ?_
  rintro e w3 ⟨rfl, rfl⟩
  go_wp2_with fail
  refine (HM _).mono ?_
  rintro e w4 ⟨rfl, hb⟩
  have T4 : Hid (ShB w w4 _ _ _ _) := T3.out.step hb
  clear hb b0 b1 b2 b3
  obtain ⟨z4, _, c0, c1, c2, c3⟩ := T4.out
  go_wp2
  go_ret2
  exact ⟨rfl, T4.out.bel⟩
set_option maxRecDepth 100000 in
set_option maxHeartbeats 1000000 in
theorem exact_up_64 {m : Nat} {p : Int} (hm : m < 18446744073709551616) (m0 : ((m : Int) == 0) = false) (hp0 : -9223372036854775808 ≤ p) (hp : ¬ 1023 < p) {u : Int} {z : Nat} (hu : min (53 - (ln m : Int)) (p + 1074) = u) (hz : ctzW (m : Int) = (z : Int)) (q : ¬ (z : Int) < -u) (q2 : ¬ 971 < p - u) (g : 0 < u) {X : Nat} (hX : (m : Int) * 2 ^ u.toNat = (X : Int)) (hx : X ≤ 9007199254740992) {k : Nat} (hk : p - u = (-1074) + (k : Int)) (hk2 : k ≤ 2047) (w : World) (hT : Tab w) : Calls Tryd.prog 107 #[.agg #[.int .u64 9223372036854775808, .int .u64 9218868437227405312, .int .i64 52, .int .i64 (-1074)], .int .u64 (m : Int), .int .i64 p] w fun e w' => e = .returned (.tuple #[.int .u64 ((k * 4503599627370496 + X : Nat) : Int), .nilIface]) ∧ Below w.heap.size w w' := by
  have HM := fun W => most_64 W
  have HR := fun W => room_64 (word_nat hm) (blen_ln m hm) hp0 (by omega : p ≤ 5000) W
  have HZ := fun W (g : Tab W) => tz64_any (m : Int) (word_nat hm) W g
  have HT : Hid (Tab w) := hT
  rw [hz] at HZ
  rw [hu] at HR
  have i1 : IntKind.i64.wrap 1023 = 1023 := by decide
  clear hT
  have u0 : -9223372036854775807 ≤ u := by have := (ln_iff m 64).2 hm; omega
  have u1 : u ≤ 53 := by omega
  have v0 : -100000 ≤ p - u := by have := (ln_iff m 64).2 hm; omega
  have v1 : p - u ≤ 100000 := by have := (ln_iff m 64).2 hm; omega
  have HY := fun W => lay_64 hk hk2 hx W
  have g1 : ¬ u < 0 := by omega
  have g2 : 0 ≤ u := by omega
  have g3 : -u < 0 := by omega
  have e1 : IntKind.i64.wrap (-u) = -u := IntWalk.i64_in _ ⟨by omega, by omega⟩
  have s1 : IntKind.u64.wrap ((m : Int) * 2 ^ u.toNat) = (X : Int) := by rw [hX, IntKind.wrap_u64]; omega
  have x1 : (if u < 0 then 0 else u) = u := if_neg g1
  have x2 : (if -u < 0 then 0 else -u) = 0 := if_pos g3
  have e2 : IntKind.i64.wrap (p - u) = p - u := IntWalk.i64_in _ ⟨by omega, by omega⟩
  clear hX
  generalize k * 4503599627370496 + X = R at *
  clear hu hz hm hk
  go_enter Tryd.func107, Tryd.ntmps107
  go_wp2
  go_region_held3 (fun w' => w'.cell? ⟨w.heap.size, 0, none⟩ = some (.int .u64 9223372036854775808) ∧ w'.cell? ⟨w.heap.size, 1, none⟩ = some (.int .u64 9218868437227405312) ∧ w'.cell? ⟨w.heap.size, 2, none⟩ = some (.int .i64 52) ∧ w'.cell? ⟨w.heap.size, 3, none⟩ = some (.int .i64 (-1074))) (simp [*, go_sem])
    (first
      | (go_at_call 115; refine (HM _).mono ?_; rintro x1 w2 ⟨rfl, hb⟩; have T2 : Hid (ShB w w2 _ _ _ _) := (ShB.start w (.int .u64 9223372036854775808) (.int .u64 9218868437227405312) (.int .i64 52) (.int .i64 (-1074)) 123).drew.step hb; clear hb; obtain ⟨z2, _, a0, a1, a2, a3⟩ := T2.out))
  go_wp2_with fail
  refine (HR _).mono ?_
  rintro e w3 ⟨rfl, hb⟩
  have T3 : Hid (ShB w w3 _ _ _ _) := T2.out.step hb
  clear hb a0 a1 a2 a3
  obtain ⟨z3, _, b0, b1, b2, b3⟩ := T3.out
  go_wp2_with fail
  refine (HZ _ (HT.out.below T3.out.bel HT.out.pos)).mono ?_
  rintro e w3 ⟨rfl, rfl⟩
  go_wp2_with fail
  refine (HM _).mono ?_
  rintro e w4 ⟨rfl, hb⟩
  have T4 : Hid (ShB w w4 _ _ _ _) := T3.out.step hb
  clear hb b0 b1 b2 b3
  obtain ⟨z4, _, c0, c1, c2, c3⟩ := T4.out
  go_wp2
  go_region_held3 (fun w' => w'.cell? ⟨w.heap.size, 0, none⟩ = some (.int .u64 9223372036854775808) ∧ w'.cell? ⟨w.heap.size, 1, none⟩ = some (.int .u64 9218868437227405312) ∧ w'.cell? ⟨w.heap.size, 2, none⟩ = some (.int .i64 52) ∧ w'.cell? ⟨w.heap.size, 3, none⟩ = some (.int .i64 (-1074))) (simp [*, go_sem])
    (first
      | (go_at_call 117; refine (HY _).mono ?_; rintro x5 w5 ⟨rfl, hb⟩; have T5 : Hid (ShB w w5 _ _ _ _) := T4.out.drew.step hb; clear hb; obtain ⟨z5, _, d0, d1, d2, d3⟩ := T5.out))
  all_goals
    go_wp2
    go_ret2
    exact ⟨rfl, T5.out.bel⟩
set_option maxRecDepth 100000 in
set_option maxHeartbeats 1000000 in
theorem exact_down_64 {m : Nat} {p : Int} (hm : m < 18446744073709551616) (m0 : ((m : Int) == 0) = false) (hp0 : -9223372036854775808 ≤ p) (hp : ¬ 1023 < p) {v : Int} {z : Nat} (hu : min (53 - (ln m : Int)) (p + 1074) = (-v)) (hz : ctzW (m : Int) = (z : Int)) (q : ¬ (z : Int) < v) (q2 : ¬ 971 < p + v) (g : 0 < v) (z1 : z < 64) {X : Nat} (hX : (m : Int) / 2 ^ v.toNat = (X : Int)) (hx : X ≤ 9007199254740992) {k : Nat} (hk : p + v = (-1074) + (k : Int)) (hk2 : k ≤ 2047) (w : World) (hT : Tab w) : Calls Tryd.prog 107 #[.agg #[.int .u64 9223372036854775808, .int .u64 9218868437227405312, .int .i64 52, .int .i64 (-1074)], .int .u64 (m : Int), .int .i64 p] w fun e w' => e = .returned (.tuple #[.int .u64 ((k * 4503599627370496 + X : Nat) : Int), .nilIface]) ∧ Below w.heap.size w w' := by
  have HM := fun W => most_64 W
  have HR := fun W => room_64 (word_nat hm) (blen_ln m hm) hp0 (by omega : p ≤ 5000) W
  have HZ := fun W (g : Tab W) => tz64_any (m : Int) (word_nat hm) W g
  have HT : Hid (Tab w) := hT
  rw [hz] at HZ
  rw [hu] at HR
  have i1 : IntKind.i64.wrap 1023 = 1023 := by decide
  clear hT
  have u0 : -9223372036854775807 ≤ (-v) := by have := (ln_iff m 64).2 hm; omega
  have u1 : (-v) ≤ 53 := by omega
  have v0 : -100000 ≤ p + v := by have := (ln_iff m 64).2 hm; omega
  have v1 : p + v ≤ 100000 := by have := (ln_iff m 64).2 hm; omega
  have HY := fun W => lay_64 hk hk2 hx W
  have g1 : ¬ v < 0 := by omega
  have g2 : 0 ≤ v := by omega
  have g3 : -v < 0 := by omega
  have e1 : IntKind.i64.wrap v = v := IntWalk.i64_in _ ⟨by omega, by omega⟩
  have s0 : IntKind.u64.wrap (m : Int) = (m : Int) := by rw [IntKind.wrap_u64]; omega
  have s1 : (m : Int) / 2 ^ min v.toNat 64 = (X : Int) := by rw [Nat.min_eq_left (by omega), hX]
  have x1 : (if -v < 0 then 0 else -v) = 0 := if_pos g3
  have x2 : (if v < 0 then 0 else v) = v := if_neg g1
  have e2 : IntKind.i64.wrap (p + v) = p + v := IntWalk.i64_in _ ⟨by omega, by omega⟩
  clear hX z1
  generalize k * 4503599627370496 + X = R at *
  clear hu hz hm hk
  go_enter Tryd.func107, Tryd.ntmps107
  go_wp2
  go_region_held3 (fun w' => w'.cell? ⟨w.heap.size, 0, none⟩ = some (.int .u64 9223372036854775808) ∧ w'.cell? ⟨w.heap.size, 1, none⟩ = some (.int .u64 9218868437227405312) ∧ w'.cell? ⟨w.heap.size, 2, none⟩ = some (.int .i64 52) ∧ w'.cell? ⟨w.heap.size, 3, none⟩ = some (.int .i64 (-1074))) (simp [*, go_sem])
    (first
      | (go_at_call 115; refine (HM _).mono ?_; rintro x1 w2 ⟨rfl, hb⟩; have T2 : Hid (ShB w w2 _ _ _ _) := (ShB.start w (.int .u64 9223372036854775808) (.int .u64 9218868437227405312) (.int .i64 52) (.int .i64 (-1074)) 123).drew.step hb; clear hb; obtain ⟨z2, _, a0, a1, a2, a3⟩ := T2.out))
  go_wp2_with fail
  refine (HR _).mono ?_
  rintro e w3 ⟨rfl, hb⟩
  have T3 : Hid (ShB w w3 _ _ _ _) := T2.out.step hb
  clear hb a0 a1 a2 a3
  obtain ⟨z3, _, b0, b1, b2, b3⟩ := T3.out
  go_wp2_with fail
  refine (HZ _ (HT.out.below T3.out.bel HT.out.pos)).mono ?_
  rintro e w3 ⟨rfl, rfl⟩
  go_wp2_with fail
  refine (HM _).mono ?_
  rintro e w4 ⟨rfl, hb⟩
  have T4 : Hid (ShB w w4 _ _ _ _) := T3.out.step hb
  clear hb b0 b1 b2 b3
  obtain ⟨z4, _, c0, c1, c2, c3⟩ := T4.out
  go_wp2
  go_region_held3 (fun w' => w'.cell? ⟨w.heap.size, 0, none⟩ = some (.int .u64 9223372036854775808) ∧ w'.cell? ⟨w.heap.size, 1, none⟩ = some (.int .u64 9218868437227405312) ∧ w'.cell? ⟨w.heap.size, 2, none⟩ = some (.int .i64 52) ∧ w'.cell? ⟨w.heap.size, 3, none⟩ = some (.int .i64 (-1074))) (simp [*, go_sem])
    (first
      | (go_at_call 117; refine (HY _).mono ?_; rintro x5 w5 ⟨rfl, hb⟩; have T5 : Hid (ShB w w5 _ _ _ _) := T4.out.drew.step hb; clear hb; obtain ⟨z5, _, d0, d1, d2, d3⟩ := T5.out))
  all_goals
    go_wp2
    go_ret2
    exact ⟨rfl, T5.out.bel⟩
set_option maxRecDepth 100000 in
set_option maxHeartbeats 1000000 in
theorem exact_even_64 {m : Nat} {p : Int} (hm : m < 18446744073709551616) (m0 : ((m : Int) == 0) = false) (hp0 : -9223372036854775808 ≤ p) (hp : ¬ 1023 < p) {z : Nat} (hu : min (53 - (ln m : Int)) (p + 1074) = 0) (hz : ctzW (m : Int) = (z : Int)) (q : 0 ≤ z) (q2 : ¬ 971 < p) {X : Nat} (hX : m = X) (hx : X ≤ 9007199254740992) {k : Nat} (hk : p = (-1074) + (k : Int)) (hk2 : k ≤ 2047) (w : World) (hT : Tab w) : Calls Tryd.prog 107 #[.agg #[.int .u64 9223372036854775808, .int .u64 9218868437227405312, .int .i64 52, .int .i64 (-1074)], .int .u64 (m : Int), .int .i64 p] w fun e w' => e = .returned (.tuple #[.int .u64 ((k * 4503599627370496 + X : Nat) : Int), .nilIface]) ∧ Below w.heap.size w w' := by
  have HM := fun W => most_64 W
  have HR := fun W => room_64 (word_nat hm) (blen_ln m hm) hp0 (by omega : p ≤ 5000) W
  have HZ := fun W (g : Tab W) => tz64_any (m : Int) (word_nat hm) W g
  have HT : Hid (Tab w) := hT
  rw [hz] at HZ
  rw [hu] at HR
  have i1 : IntKind.i64.wrap 1023 = 1023 := by decide
  clear hT
  have u0 : -9223372036854775807 ≤ 0 := by have := (ln_iff m 64).2 hm; omega
  have u1 : 0 ≤ 53 := by omega
  have v0 : -100000 ≤ p := by have := (ln_iff m 64).2 hm; omega
  have v1 : p ≤ 100000 := by have := (ln_iff m 64).2 hm; omega
  have HY := fun W => lay_64 hk hk2 hx W
  subst hX
  have s0 : IntKind.u64.wrap (m : Int) = (m : Int) := by rw [IntKind.wrap_u64]; omega
  have i0 : IntKind.i64.wrap 0 = 0 := by decide
  have e2 : IntKind.i64.wrap p = p := IntWalk.i64_in _ ⟨by omega, by omega⟩
  generalize k * 4503599627370496 + m = R at *
  clear hu hz hm hk
  go_enter Tryd.func107, Tryd.ntmps107
  go_wp2
  go_region_held3 (fun w' => w'.cell? ⟨w.heap.size, 0, none⟩ = some (.int .u64 9223372036854775808) ∧ w'.cell? ⟨w.heap.size, 1, none⟩ = some (.int .u64 9218868437227405312) ∧ w'.cell? ⟨w.heap.size, 2, none⟩ = some (.int .i64 52) ∧ w'.cell? ⟨w.heap.size, 3, none⟩ = some (.int .i64 (-1074))) (simp [*, go_sem])
    (first
      | (go_at_call 115; refine (HM _).mono ?_; rintro x1 w2 ⟨rfl, hb⟩; have T2 : Hid (ShB w w2 _ _ _ _) := (ShB.start w (.int .u64 9223372036854775808) (.int .u64 9218868437227405312) (.int .i64 52) (.int .i64 (-1074)) 123).drew.step hb; clear hb; obtain ⟨z2, _, a0, a1, a2, a3⟩ := T2.out))
  go_wp2_with fail
  refine (HR _).mono ?_
  rintro e w3 ⟨rfl, hb⟩
  have T3 : Hid (ShB w w3 _ _ _ _) := T2.out.step hb
  clear hb a0 a1 a2 a3
  obtain ⟨z3, _, b0, b1, b2, b3⟩ := T3.out
  go_wp2_with fail
  refine (HZ _ (HT.out.below T3.out.bel HT.out.pos)).mono ?_
  rintro e w3 ⟨rfl, rfl⟩
  go_wp2_with fail
  refine (HM _).mono ?_
  rintro e w4 ⟨rfl, hb⟩
  have T4 : Hid (ShB w w4 _ _ _ _) := T3.out.step hb
  clear hb b0 b1 b2 b3
  obtain ⟨z4, _, c0, c1, c2, c3⟩ := T4.out
  go_wp2
  go_region_held3 (fun w' => w'.cell? ⟨w.heap.size, 0, none⟩ = some (.int .u64 9223372036854775808) ∧ w'.cell? ⟨w.heap.size, 1, none⟩ = some (.int .u64 9218868437227405312) ∧ w'.cell? ⟨w.heap.size, 2, none⟩ = some (.int .i64 52) ∧ w'.cell? ⟨w.heap.size, 3, none⟩ = some (.int .i64 (-1074))) (simp [*, go_sem])
    (first
      | (go_at_call 117; refine (HY _).mono ?_; rintro x5 w5 ⟨rfl, hb⟩; have T5 : Hid (ShB w w5 _ _ _ _) := T4.out.drew.step hb; clear hb; obtain ⟨z5, _, d0, d1, d2, d3⟩ := T5.out))
  all_goals
    go_wp2
    go_ret2
    exact ⟨rfl, T5.out.bel⟩
end Go.Proofs.YtealnajogkeckaaDoor
