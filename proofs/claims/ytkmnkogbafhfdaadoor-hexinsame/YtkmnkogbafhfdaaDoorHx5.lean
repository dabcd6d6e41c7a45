/-
  Older texts, as far as layer 17 asks them: the document's numbers of many digits; floats taken apart and put together.
-/
import Derived.Test.YtkmnkogbafhfdaaDoorHx4
namespace Go.Proofs.YtkmnkogbafhfdaaDoor
open Go.RowKit

set_option maxRecDepth 100000 in
set_option maxHeartbeats 1000000 in
theorem room_32 {x p n : Int} (hx : Word x) (hn : blen x = n) (h0 : -9223372036854775808 ≤ p) (h1 : p ≤ 5000) (w : World) : Calls Tryd.prog 67 #[.agg #[.int .u64 2147483648, .int .u64 2139095040, .int .i64 23, .int .i64 (-149)], .int .u64 x, .int .i64 p] w fun e w' => e = .returned (.int .i64 (min (24 - n) (p + 149))) ∧ Below w.heap.size w w' := by
  have HL := fun W => len64_any x hx W
  rw [hn] at HL
  have b := blen_01 x hx.1 hx.2
  rw [hn] at b
  obtain ⟨n0, n1⟩ := b
  clear hn hx
  obtain ⟨R, hR⟩ : ∃ R, R = min (24 - n) (p + 149) := ⟨_, rfl⟩
  have i1 : IntKind.i64.wrap (p + 149) = p + 149 := IntWalk.i64_in _ ⟨by omega, by omega⟩
  have i2 : IntKind.i64.wrap 24 = 24 := by decide
  have i3 : IntKind.i64.wrap (24 - n) = 24 - n := IntWalk.i64_in _ ⟨by omega, by omega⟩
  have E : (if IntKind.i64.wrap (p + 149) < IntKind.i64.wrap (IntKind.i64.wrap 24 - n) then IntKind.i64.wrap (p + 149) else IntKind.i64.wrap (IntKind.i64.wrap 24 - n)) = R := by
    rw [i2, i1, i3, hR]
    split <;> omega
  rw [← hR]
  clear i1 i2 i3 hR h0 h1 n0 n1
  go_enter Tryd.func67, Tryd.ntmps67
  go_wp2
  go_region_held3 (fun w' => w'.cell? ⟨w.heap.size, 0, none⟩ = some (.int .u64 2147483648) ∧ w'.cell? ⟨w.heap.size, 1, none⟩ = some (.int .u64 2139095040) ∧ w'.cell? ⟨w.heap.size, 2, none⟩ = some (.int .i64 23) ∧ w'.cell? ⟨w.heap.size, 3, none⟩ = some (.int .i64 (-149))) (simp [*, go_sem])
    (first
      | (go_at_call 30; refine (HL _).mono ?_; rintro x1 w2 ⟨rfl, hh⟩; subst hh))
  go_wp2
  go_ret
  exact ⟨rfl, ((Below.refl _ _).alloc (Nat.le_refl _) _).drew⟩
set_option maxRecDepth 100000 in
set_option maxHeartbeats 1000000 in
theorem lay_32 {x k : Nat} {p : Int} (hp : p = (-149) + (k : Int)) (hk : k ≤ 255) (hx : x ≤ 16777216) (w : World) : Calls Tryd.prog 69 #[.agg #[.int .u64 2147483648, .int .u64 2139095040, .int .i64 23, .int .i64 (-149)], .int .u64 (x : Int), .int .i64 p] w fun e w' => e = .returned (.int .u64 ((k * 8388608 + x : Nat) : Int)) ∧ Below w.heap.size w w' := by
  have e1 : p + 149 = (k : Int) := by omega
  have e2 : ((k : Int) * 8388608) + (x : Int) = ((k * 8388608 + x : Nat) : Int) := by omega
  obtain ⟨Z, hZ⟩ : ∃ Z, Z = k * 8388608 + x := ⟨_, rfl⟩
  rw [← hZ] at e2 ⊢
  have hz : Z < 18446744073709551616 := by omega
  clear hZ hp
  go_enter Tryd.func69, Tryd.ntmps69
  go_wp2
  go_ret
  exact ⟨rfl, (Below.refl _ _).alloc (Nat.le_refl _) _⟩
set_option maxRecDepth 100000 in
set_option maxHeartbeats 1000000 in
theorem room_64 {x p n : Int} (hx : Word x) (hn : blen x = n) (h0 : -9223372036854775808 ≤ p) (h1 : p ≤ 5000) (w : World) : Calls Tryd.prog 67 #[.agg #[.int .u64 9223372036854775808, .int .u64 9218868437227405312, .int .i64 52, .int .i64 (-1074)], .int .u64 x, .int .i64 p] w fun e w' => e = .returned (.int .i64 (min (53 - n) (p + 1074))) ∧ Below w.heap.size w w' := by
  have HL := fun W => len64_any x hx W
  rw [hn] at HL
  have b := blen_01 x hx.1 hx.2
  rw [hn] at b
  obtain ⟨n0, n1⟩ := b
  clear hn hx
  obtain ⟨R, hR⟩ : ∃ R, R = min (53 - n) (p + 1074) := ⟨_, rfl⟩
  have i1 : IntKind.i64.wrap (p + 1074) = p + 1074 := IntWalk.i64_in _ ⟨by omega, by omega⟩
  have i2 : IntKind.i64.wrap 53 = 53 := by decide
  have i3 : IntKind.i64.wrap (53 - n) = 53 - n := IntWalk.i64_in _ ⟨by omega, by omega⟩
  have E : (if IntKind.i64.wrap (p + 1074) < IntKind.i64.wrap (IntKind.i64.wrap 53 - n) then IntKind.i64.wrap (p + 1074) else IntKind.i64.wrap (IntKind.i64.wrap 53 - n)) = R := by
    rw [i2, i1, i3, hR]
    split <;> omega
  rw [← hR]
  clear i1 i2 i3 hR h0 h1 n0 n1
  go_enter Tryd.func67, Tryd.ntmps67
  go_wp2
  go_region_held3 (fun w' => w'.cell? ⟨w.heap.size, 0, none⟩ = some (.int .u64 9223372036854775808) ∧ w'.cell? ⟨w.heap.size, 1, none⟩ = some (.int .u64 9218868437227405312) ∧ w'.cell? ⟨w.heap.size, 2, none⟩ = some (.int .i64 52) ∧ w'.cell? ⟨w.heap.size, 3, none⟩ = some (.int .i64 (-1074))) (simp [*, go_sem])
    (first
      | (go_at_call 30; refine (HL _).mono ?_; rintro x1 w2 ⟨rfl, hh⟩; subst hh))
  go_wp2
  go_ret
  exact ⟨rfl, ((Below.refl _ _).alloc (Nat.le_refl _) _).drew⟩
set_option maxRecDepth 100000 in
set_option maxHeartbeats 1000000 in
theorem lay_64 {x k : Nat} {p : Int} (hp : p = (-1074) + (k : Int)) (hk : k ≤ 2047) (hx : x ≤ 9007199254740992) (w : World) : Calls Tryd.prog 69 #[.agg #[.int .u64 9223372036854775808, .int .u64 9218868437227405312, .int .i64 52, .int .i64 (-1074)], .int .u64 (x : Int), .int .i64 p] w fun e w' => e = .returned (.int .u64 ((k * 4503599627370496 + x : Nat) : Int)) ∧ Below w.heap.size w w' := by
  have e1 : p + 1074 = (k : Int) := by omega
  have e2 : ((k : Int) * 4503599627370496) + (x : Int) = ((k * 4503599627370496 + x : Nat) : Int) := by omega
  obtain ⟨Z, hZ⟩ : ∃ Z, Z = k * 4503599627370496 + x := ⟨_, rfl⟩
  rw [← hZ] at e2 ⊢
  have hz : Z < 18446744073709551616 := by omega
  clear hZ hp
  go_enter Tryd.func69, Tryd.ntmps69
  go_wp2
  go_ret
  exact ⟨rfl, (Below.refl _ _).alloc (Nat.le_refl _) _⟩
theorem blen_ln (m : Nat) (h : m < 18446744073709551616) : blen (m : Int) = (ln m : Int) := by
  by_cases z : m = 0
  · subst z; decide
  · obtain ⟨n, a, _, b, c⟩ := blen_bounds (m : Int) (by omega) (by omega)
    rw [a, ln_of (m := m) (k := n) (by exact_mod_cast b) (by exact_mod_cast c)]
    omega
theorem word_nat {m : Nat} (h : m < 18446744073709551616) : Word (m : Int) := ⟨by omega, by omega⟩
set_option maxRecDepth 100000 in
set_option maxHeartbeats 1000000 in
theorem exact_high_32 {m : Nat} {p : Int} (m0 : ((m : Int) == 0) = false) (h : 127 < p) (w : World) : Calls Tryd.prog 59 #[.agg #[.int .u64 2147483648, .int .u64 2139095040, .int .i64 23, .int .i64 (-149)], .int .u64 (m : Int), .int .i64 p] w fun e w' => e = .returned (.tuple #[.int .u64 0, .iface 42 (.int .i64 4)]) ∧ Below w.heap.size w w' := by
  have HM := fun W => most_32 W
  have i1 : IntKind.i64.wrap 127 = 127 := by decide
  go_enter Tryd.func59, Tryd.ntmps59
  go_wp2
  go_region_held3 (fun w' => w'.cell? ⟨w.heap.size, 0, none⟩ = some (.int .u64 2147483648) ∧ w'.cell? ⟨w.heap.size, 1, none⟩ = some (.int .u64 2139095040) ∧ w'.cell? ⟨w.heap.size, 2, none⟩ = some (.int .i64 23) ∧ w'.cell? ⟨w.heap.size, 3, none⟩ = some (.int .i64 (-149))) (simp [*, go_sem])
    (first
      | (go_at_call 66; refine (HM _).mono ?_; rintro x1 w2 ⟨rfl, hb⟩; have T2 : Hid (ShB w w2 _ _ _ _) := (ShB.start w (.int .u64 2147483648) (.int .u64 2139095040) (.int .i64 23) (.int .i64 (-149)) 55).drew.step hb; clear hb; obtain ⟨z2, _, a0, a1, a2, a3⟩ := T2.out))
  go_wp2
  go_ret2
  exact ⟨rfl, T2.out.bel⟩
set_option maxRecDepth 100000 in
set_option maxHeartbeats 1000000 in
theorem exact_low_32 {m : Nat} {p : Int} (hm : m < 18446744073709551616) (m0 : ((m : Int) == 0) = false) (hp0 : -9223372036854775808 ≤ p) (hp : ¬ 127 < p) {u : Int} {z : Nat} (hu : min (24 - (ln m : Int)) (p + 149) = u) (hz : ctzW (m : Int) = (z : Int)) (q : (z : Int) < -u) (w : World) (hT : Tab w) : Calls Tryd.prog 59 #[.agg #[.int .u64 2147483648, .int .u64 2139095040, .int .i64 23, .int .i64 (-149)], .int .u64 (m : Int), .int .i64 p] w fun e w' => e = .returned (.tuple #[.int .u64 0, .iface 42 (.int .i64 4)]) ∧ Below w.heap.size w w' := by
  have HM := fun W => most_32 W
  have HR := fun W => room_32 (word_nat hm) (blen_ln m hm) hp0 (by omega : p ≤ 5000) W
  have HZ := fun W (g : Tab W) => tz64_any (m : Int) (word_nat hm) W g
  have HT : Hid (Tab w) := hT
  rw [hz] at HZ
  rw [hu] at HR
  have i1 : IntKind.i64.wrap 127 = 127 := by decide
  clear hT
  have u0 : -9223372036854775807 ≤ u := by have := (ln_iff m 64).2 hm; omega
  have u1 : u ≤ 24 := by omega
  clear hu hz hm
  go_enter Tryd.func59, Tryd.ntmps59
  go_wp2
  go_region_held3 (fun w' => w'.cell? ⟨w.heap.size, 0, none⟩ = some (.int .u64 2147483648) ∧ w'.cell? ⟨w.heap.size, 1, none⟩ = some (.int .u64 2139095040) ∧ w'.cell? ⟨w.heap.size, 2, none⟩ = some (.int .i64 23) ∧ w'.cell? ⟨w.heap.size, 3, none⟩ = some (.int .i64 (-149))) (simp [*, go_sem])
    (first
      | (go_at_call 66; refine (HM _).mono ?_; rintro x1 w2 ⟨rfl, hb⟩; have T2 : Hid (ShB w w2 _ _ _ _) := (ShB.start w (.int .u64 2147483648) (.int .u64 2139095040) (.int .i64 23) (.int .i64 (-149)) 55).drew.step hb; clear hb; obtain ⟨z2, _, a0, a1, a2, a3⟩ := T2.out))
  go_wp2_with fail
  refine (HR _).mono ?_
  rintro e w3 ⟨rfl, hb⟩
  have T3 : Hid (ShB w w3 _ _ _ _) := T2.out.step hb
  clear hb a0 a1 a2 a3
  obtain ⟨z3, _, b0, b1, b2, b3⟩ := T3.out
  go_wp2_with fail
  refine (HZ _ (HT.out.below T3.out.bel HT.out.pos)).mono ?_
  rintro e w3 ⟨rfl, rfl⟩
  go_wp2
  go_ret2
  exact ⟨rfl, T3.out.bel⟩
set_option maxRecDepth 100000 in
set_option maxHeartbeats 1000000 in
theorem exact_top_32 {m : Nat} {p : Int} (hm : m < 18446744073709551616) (m0 : ((m : Int) == 0) = false) (hp0 : -9223372036854775808 ≤ p) (hp : ¬ 127 < p) {u : Int} {z : Nat} (hu : min (24 - (ln m : Int)) (p + 149) = u) (hz : ctzW (m : Int) = (z : Int)) (q : ¬ (z : Int) < -u) (q2 : 104 < p - u) (w : World) (hT : Tab w) : Calls Tryd.prog 59 #[.agg #[.int .u64 2147483648, .int .u64 2139095040, .int .i64 23, .int .i64 (-149)], .int .u64 (m : Int), .int .i64 p] w fun e w' => e = .returned (.tuple #[.int .u64 0, .iface 42 (.int .i64 4)]) ∧ Below w.heap.size w w' := by
  have HM := fun W => most_32 W
  have HR := fun W => room_32 (word_nat hm) (blen_ln m hm) hp0 (by omega : p ≤ 5000) W
  have HZ := fun W (g : Tab W) => tz64_any (m : Int) (word_nat hm) W g
  have HT : Hid (Tab w) := hT
  rw [hz] at HZ
  rw [hu] at HR
  have i1 : IntKind.i64.wrap 127 = 127 := by decide
  clear hT
  have u0 : -9223372036854775807 ≤ u := by have := (ln_iff m 64).2 hm; omega
  have u1 : u ≤ 24 := by omega
  have v0 : -100000 ≤ p - u := by have := (ln_iff m 64).2 hm; omega
  have v1 : p - u ≤ 100000 := by have := (ln_iff m 64).2 hm; omega
  clear hu hz hm
  go_enter Tryd.func59, Tryd.ntmps59
  go_wp2
  go_region_held3 (fun w' => w'.cell? ⟨w.heap.size, 0, none⟩ = some (.int .u64 2147483648) ∧ w'.cell? ⟨w.heap.size, 1, none⟩ = some (.int .u64 2139095040) ∧ w'.cell? ⟨w.heap.size, 2, none⟩ = some (.int .i64 23) ∧ w'.cell? ⟨w.heap.size, 3, none⟩ = some (.int .i64 (-149))) (simp [*, go_sem])
    (first
      | (go_at_call 66; refine (HM _).mono ?_; rintro x1 w2 ⟨rfl, hb⟩; have T2 : Hid (ShB w w2 _ _ _ _) := (ShB.start w (.int .u64 2147483648) (.int .u64 2139095040) (.int .i64 23) (.int .i64 (-149)) 55).drew.step hb; clear hb; obtain ⟨z2, _, a0, a1, a2, a3⟩ := T2.out))
  go_wp2_with fail
  refine (HR _).mono ?_
  rintro e w3 ⟨rfl, hb⟩
  have T3 : Hid (ShB w w3 _ _ _ _) := T2.out.step hb
  clear hb a0 a1 a2 a3
  obtain ⟨z3, _, b0, b1, b2, b3⟩ := T3.out
  go_wp2_with fail
  refine (HZ _ (HT.out.below T3.out.bel HT.out.pos)).mono ?_
  rintro e w3 ⟨rfl, rfl⟩
  go_wp2_with fail
  refine (HM _).mono ?_
  rintro e w4 ⟨rfl, hb⟩
  have T4 : Hid (ShB w w4 _ _ _ _) := T3.out.step hb
  clear hb b0 b1 b2 b3
  obtain ⟨z4, _, c0, c1, c2, c3⟩ := T4.out
  go_wp2
  go_ret2
  exact ⟨rfl, T4.out.bel⟩
set_option maxRecDepth 100000 in
set_option maxHeartbeats 1000000 in
theorem exact_up_32 {m : Nat} {p : Int} (hm : m < 18446744073709551616) (m0 : ((m : Int) == 0) = false) (hp0 : -9223372036854775808 ≤ p) (hp : ¬ 127 < p) {u : Int} {z : Nat} (hu : min (24 - (ln m : Int)) (p + 149) = u) (hz : ctzW (m : Int) = (z : Int)) (q : ¬ (z : Int) < -u) (q2 : ¬ 104 < p - u) (g : 0 < u) {X : Nat} (hX : (m : Int) * 2 ^ u.toNat = (X : Int)) (hx : X ≤ 16777216) {k : Nat} (hk : p - u = (-149) + (k : Int)) (hk2 : k ≤ 255) (w : World) (hT : Tab w) : Calls Tryd.prog 59 #[.agg #[.int .u64 2147483648, .int .u64 2139095040, .int .i64 23, .int .i64 (-149)], .int .u64 (m : Int), .int .i64 p] w fun e w' => e = .returned (.tuple #[.int .u64 ((k * 8388608 + X : Nat) : Int), .nilIface]) ∧ Below w.heap.size w w' := by
  have HM := fun W => most_32 W
  have HR := fun W => room_32 (word_nat hm) (blen_ln m hm) hp0 (by omega : p ≤ 5000) W
  have HZ := fun W (g : Tab W) => tz64_any (m : Int) (word_nat hm) W g
  have HT : Hid (Tab w) := hT
  rw [hz] at HZ
  rw [hu] at HR
  have i1 : IntKind.i64.wrap 127 = 127 := by decide
  clear hT
  have u0 : -9223372036854775807 ≤ u := by have := (ln_iff m 64).2 hm; omega
  have u1 : u ≤ 24 := by omega
  have v0 : -100000 ≤ p - u := by have := (ln_iff m 64).2 hm; omega
  have v1 : p - u ≤ 100000 := by have := (ln_iff m 64).2 hm; omega
  have HY := fun W => lay_32 hk hk2 hx W
  have g1 : ¬ u < 0 := by omega
  have g2 : 0 ≤ u := by omega
  have g3 : -u < 0 := by omega
  have e1 : IntKind.i64.wrap (-u) = -u := IntWalk.i64_in _ ⟨by omega, by omega⟩
  have s1 : IntKind.u64.wrap ((m : Int) * 2 ^ u.toNat) = (X : Int) := by rw [hX, IntKind.wrap_u64]; omega
  have x1 : (if u < 0 then 0 else u) = u := if_neg g1
  have x2 : (if -u < 0 then 0 else -u) = 0 := if_pos g3
  have e2 : IntKind.i64.wrap (p - u) = p - u := IntWalk.i64_in _ ⟨by omega, by omega⟩
  clear hX
  generalize k * 8388608 + X = R at *
  clear hu hz hm hk
  go_enter Tryd.func59, Tryd.ntmps59
  go_wp2
  go_region_held3 (fun w' => w'.cell? ⟨w.heap.size, 0, none⟩ = some (.int .u64 2147483648) ∧ w'.cell? ⟨w.heap.size, 1, none⟩ = some (.int .u64 2139095040) ∧ w'.cell? ⟨w.heap.size, 2, none⟩ = some (.int .i64 23) ∧ w'.cell? ⟨w.heap.size, 3, none⟩ = some (.int .i64 (-149))) (simp [*, go_sem])
    (first
      | (go_at_call 66; refine (HM _).mono ?_; rintro x1 w2 ⟨rfl, hb⟩; have T2 : Hid (ShB w w2 _ _ _ _) := (ShB.start w (.int .u64 2147483648) (.int .u64 2139095040) (.int .i64 23) (.int .i64 (-149)) 55).drew.step hb; clear hb; obtain ⟨z2, _, a0, a1, a2, a3⟩ := T2.out))
  go_wp2_with fail
  refine (HR _).mono ?_
  rintro e w3 ⟨rfl, hb⟩
  have T3 : Hid (ShB w w3 _ _ _ _) := T2.out.step hb
  clear hb a0 a1 a2 a3
  obtain ⟨z3, _, b0, b1, b2, b3⟩ := T3.out
  go_wp2_with fail
  refine (HZ _ (HT.out.below T3.out.bel HT.out.pos)).mono ?_
  rintro e w3 ⟨rfl, rfl⟩
  go_wp2_with fail
  refine (HM _).mono ?_
  rintro e w4 ⟨rfl, hb⟩
  have T4 : Hid (ShB w w4 _ _ _ _) := T3.out.step hb
  clear hb b0 b1 b2 b3
  obtain ⟨z4, _, c0, c1, c2, c3⟩ := T4.out
  go_wp2
  go_region_held3 (fun w' => w'.cell? ⟨w.heap.size, 0, none⟩ = some (.int .u64 2147483648) ∧ w'.cell? ⟨w.heap.size, 1, none⟩ = some (.int .u64 2139095040) ∧ w'.cell? ⟨w.heap.size, 2, none⟩ = some (.int .i64 23) ∧ w'.cell? ⟨w.heap.size, 3, none⟩ = some (.int .i64 (-149))) (simp [*, go_sem])
    (first
      | (go_at_call 69; refine (HY _).mono ?_; rintro x5 w5 ⟨rfl, hb⟩; have T5 : Hid (ShB w w5 _ _ _ _) := T4.out.drew.step hb; clear hb; obtain ⟨z5, _, d0, d1, d2, d3⟩ := T5.out))
  all_goals
    go_wp2
    go_ret2
    exact ⟨rfl, T5.out.bel⟩
set_option maxRecDepth 100000 in
set_option maxHeartbeats 1000000 in
theorem exact_down_32 {m : Nat} {p : Int} (hm : m < 18446744073709551616) (m0 : ((m : Int) == 0) = false) (hp0 : -9223372036854775808 ≤ p) (hp : ¬ 127 < p) {v : Int} {z : Nat} (hu : min (24 - (ln m : Int)) (p + 149) = (-v)) (hz : ctzW (m : Int) = (z : Int)) (q : ¬ (z : Int) < v) (q2 : ¬ 104 < p + v) (g : 0 < v) (z1 : z < 64) {X : Nat} (hX : (m : Int) / 2 ^ v.toNat = (X : Int)) (hx : X ≤ 16777216) {k : Nat} (hk : p + v = (-149) + (k : Int)) (hk2 : k ≤ 255) (w : World) (hT : Tab w) : Calls Tryd.prog 59 #[.agg #[.int .u64 2147483648, .int .u64 2139095040, .int .i64 23, .int .i64 (-149)], .int .u64 (m : Int), .int .i64 p] w fun e w' => e = .returned (.tuple #[.int .u64 ((k * 8388608 + X : Nat) : Int), .nilIface]) ∧ Below w.heap.size w w' := by
  have HM := fun W => most_32 W
  have HR := fun W => room_32 (word_nat hm) (blen_ln m hm) hp0 (by omega : p ≤ 5000) W
  have HZ := fun W (g : Tab W) => tz64_any (m : Int) (word_nat hm) W g
  have HT : Hid (Tab w) := hT
  rw [hz] at HZ
  rw [hu] at HR
  have i1 : IntKind.i64.wrap 127 = 127 := by decide
  clear hT
  have u0 : -9223372036854775807 ≤ (-v) := by have := (ln_iff m 64).2 hm; omega
  have u1 : (-v) ≤ 24 := by omega
  have v0 : -100000 ≤ p + v := by have := (ln_iff m 64).2 hm; omega
  have v1 : p + v ≤ 100000 := by have := (ln_iff m 64).2 hm; omega
  have HY := fun W => lay_32 hk hk2 hx W
  have g1 : ¬ v < 0 := by omega
  have g2 : 0 ≤ v := by omega
  have g3 : -v < 0 := by omega
  have e1 : IntKind.i64.wrap v = v := IntWalk.i64_in _ ⟨by omega, by omega⟩
  have s0 : IntKind.u64.wrap (m : Int) = (m : Int) := by rw [IntKind.wrap_u64]; omega
  have s1 : (m : Int) / 2 ^ min v.toNat 64 = (X : Int) := by rw [Nat.min_eq_left (by omega), hX]
  have x1 : (if -v < 0 then 0 else -v) = 0 := if_pos g3
  have x2 : (if v < 0 then 0 else v) = v := if_neg g1
  have e2 : IntKind.i64.wrap (p + v) = p + v := IntWalk.i64_in _ ⟨by omega, by omega⟩
  clear hX z1
  generalize k * 8388608 + X = R at *
  clear hu hz hm hk
  go_enter Tryd.func59, Tryd.ntmps59
  go_wp2
  go_region_held3 (fun w' => w'.cell? ⟨w.heap.size, 0, none⟩ = some (.int .u64 2147483648) ∧ w'.cell? ⟨w.heap.size, 1, none⟩ = some (.int .u64 2139095040) ∧ w'.cell? ⟨w.heap.size, 2, none⟩ = some (.int .i64 23) ∧ w'.cell? ⟨w.heap.size, 3, none⟩ = some (.int .i64 (-149))) (simp [*, go_sem])
    (first
      | (go_at_call 66; refine (HM _).mono ?_; rintro x1 w2 ⟨rfl, hb⟩; have T2 : Hid (ShB w w2 _ _ _ _) := (ShB.start w (.int .u64 2147483648) (.int .u64 2139095040) (.int .i64 23) (.int .i64 (-149)) 55).drew.step hb; clear hb; obtain ⟨z2, _, a0, a1, a2, a3⟩ := T2.out))
  go_wp2_with fail
  refine (HR _).mono ?_
  rintro e w3 ⟨rfl, hb⟩
  have T3 : Hid (ShB w w3 _ _ _ _) := T2.out.step hb
  clear hb a0 a1 a2 a3
  obtain ⟨z3, _, b0, b1, b2, b3⟩ := T3.out
  go_wp2_with fail
  refine (HZ _ (HT.out.below T3.out.bel HT.out.pos)).mono ?_
  rintro e w3 ⟨rfl, rfl⟩
  go_wp2_with fail
  refine (HM _).mono ?_
  rintro e w4 ⟨rfl, hb⟩
  have T4 : Hid (ShB w w4 _ _ _ _) := T3.out.step hb
  clear hb b0 b1 b2 b3
  obtain ⟨z4, _, c0, c1, c2, c3⟩ := T4.out
  go_wp2
  go_region_held3 (fun w' => w'.cell? ⟨w.heap.size, 0, none⟩ = some (.int .u64 2147483648) ∧ w'.cell? ⟨w.heap.size, 1, none⟩ = some (.int .u64 2139095040) ∧ w'.cell? ⟨w.heap.size, 2, none⟩ = some (.int .i64 23) ∧ w'.cell? ⟨w.heap.size, 3, none⟩ = some (.int .i64 (-149))) (simp [*, go_sem])
    (first
      | (go_at_call 69; refine (HY _).mono ?_; rintro x5 w5 ⟨rfl, hb⟩; have T5 : Hid (ShB w w5 _ _ _ _) := T4.out.drew.step hb; clear hb; obtain ⟨z5, _, d0, d1, d2, d3⟩ := T5.out))
  all_goals
    go_wp2
    go_ret2
    exact ⟨rfl, T5.out.bel⟩
set_option maxRecDepth 100000 in
set_option maxHeartbeats 1000000 in
theorem exact_even_32 {m : Nat} {p : Int} (hm : m < 18446744073709551616) (m0 : ((m : Int) == 0) = false) (hp0 : -9223372036854775808 ≤ p) (hp : ¬ 127 < p) {z : Nat} (hu : min (24 - (ln m : Int)) (p + 149) = 0) (hz : ctzW (m : Int) = (z : Int)) (q : 0 ≤ z) (q2 : ¬ 104 < p) {X : Nat} (hX : m = X) (hx : X ≤ 16777216) {k : Nat} (hk : p = (-149) + (k : Int)) (hk2 : k ≤ 255) (w : World) (hT : Tab w) : Calls Tryd.prog 59 #[.agg #[.int .u64 2147483648, .int .u64 2139095040, .int .i64 23, .int .i64 (-149)], .int .u64 (m : Int), .int .i64 p] w fun e w' => e = .returned (.tuple #[.int .u64 ((k * 8388608 + X : Nat) : Int), .nilIface]) ∧ Below w.heap.size w w' := by
  have HM := fun W => most_32 W
  have HR := fun W => room_32 (word_nat hm) (blen_ln m hm) hp0 (by omega : p ≤ 5000) W
  have HZ := fun W (g : Tab W) => tz64_any (m : Int) (word_nat hm) W g
  have HT : Hid (Tab w) := hT
  rw [hz] at HZ
  rw [hu] at HR
  have i1 : IntKind.i64.wrap 127 = 127 := by decide
  clear hT
  have u0 : -9223372036854775807 ≤ 0 := by have := (ln_iff m 64).2 hm; omega
  have u1 : 0 ≤ 24 := by omega
  have v0 : -100000 ≤ p := by have := (ln_iff m 64).2 hm; omega
  have v1 : p ≤ 100000 := by have := (ln_iff m 64).2 hm; omega
  have HY := fun W => lay_32 hk hk2 hx W
  subst hX
  have s0 : IntKind.u64.wrap (m : Int) = (m : Int) := by rw [IntKind.wrap_u64]; omega
  have i0 : IntKind.i64.wrap 0 = 0 := by decide
  have e2 : IntKind.i64.wrap p = p := IntWalk.i64_in _ ⟨by omega, by omega⟩
  generalize k * 8388608 + m = R at *
  clear hu hz hm hk
  go_enter Tryd.func59, Tryd.ntmps59
  go_wp2
  go_region_held3 (fun w' => w'.cell? ⟨w.heap.size, 0, none⟩ = some (.int .u64 2147483648) ∧ w'.cell? ⟨w.heap.size, 1, none⟩ = some (.int .u64 2139095040) ∧ w'.cell? ⟨w.heap.size, 2, none⟩ = some (.int .i64 23) ∧ w'.cell? ⟨w.heap.size, 3, none⟩ = some (.int .i64 (-149))) (simp [*, go_sem])
    (first
      | (go_at_call 66; refine (HM _).mono ?_; rintro x1 w2 ⟨rfl, hb⟩; have T2 : Hid (ShB w w2 _ _ _ _) := (ShB.start w (.int .u64 2147483648) (.int .u64 2139095040) (.int .i64 23) (.int .i64 (-149)) 55).drew.step hb; clear hb; obtain ⟨z2, _, a0, a1, a2, a3⟩ := T2.out))
  go_wp2_with fail
  refine (HR _).mono ?_
  rintro e w3 ⟨rfl, hb⟩
  have T3 : Hid (ShB w w3 _ _ _ _) := T2.out.step hb
  clear hb a0 a1 a2 a3
  obtain ⟨z3, _, b0, b1, b2, b3⟩ := T3.out
  go_wp2_with fail
  refine (HZ _ (HT.out.below T3.out.bel HT.out.pos)).mono ?_
  rintro e w3 ⟨rfl, rfl⟩
  go_wp2_with fail
  refine (HM _).mono ?_
  rintro e w4 ⟨rfl, hb⟩
  have T4 : Hid (ShB w w4 _ _ _ _) := T3.out.step hb
  clear hb b0 b1 b2 b3
  obtain ⟨z4, _, c0, c1, c2, c3⟩ := T4.out
  go_wp2
  go_region_held3 (fun w' => w'.cell? ⟨w.heap.size, 0, none⟩ = some (.int .u64 2147483648) ∧ w'.cell? ⟨w.heap.size, 1, none⟩ = some (.int .u64 2139095040) ∧ w'.cell? ⟨w.heap.size, 2, none⟩ = some (.int .i64 23) ∧ w'.cell? ⟨w.heap.size, 3, none⟩ = some (.int .i64 (-149))) (simp [*, go_sem])
    (first
      | (go_at_call 69; refine (HY _).mono ?_; rintro x5 w5 ⟨rfl, hb⟩; have T5 : Hid (ShB w w5 _ _ _ _) := T4.out.drew.step hb; clear hb; obtain ⟨z5, _, d0, d1, d2, d3⟩ := T5.out))
  all_goals
    go_wp2
    go_ret2
    exact ⟨rfl, T5.out.bel⟩
set_option maxRecDepth 100000 in
set_option maxHeartbeats 1000000 in
theorem exact_high_64 {m : Nat} {p : Int} (m0 : ((m : Int) == 0) = false) (h : 1023 < p) (w : World) : Calls Tryd.prog 59 #[.agg #[.int .u64 9223372036854775808, .int .u64 9218868437227405312, .int .i64 52, .int .i64 (-1074)], .int .u64 (m : Int), .int .i64 p] w fun e w' => e = .returned (.tuple #[.int .u64 0, .iface 42 (.int .i64 4)]) ∧ Below w.heap.size w w' := by
  have HM := fun W => most_64 W
  have i1 : IntKind.i64.wrap 1023 = 1023 := by decide
  go_enter Tryd.func59, Tryd.ntmps59
  go_wp2
  go_region_held3 (fun w' => w'.cell? ⟨w.heap.size, 0, none⟩ = some (.int .u64 9223372036854775808) ∧ w'.cell? ⟨w.heap.size, 1, none⟩ = some (.int .u64 9218868437227405312) ∧ w'.cell? ⟨w.heap.size, 2, none⟩ = some (.int .i64 52) ∧ w'.cell? ⟨w.heap.size, 3, none⟩ = some (.int .i64 (-1074))) (simp [*, go_sem])
    (first
      | (go_at_call 66; refine (HM _).mono ?_; rintro x1 w2 ⟨rfl, hb⟩; have T2 : Hid (ShB w w2 _ _ _ _) := (ShB.start w (.int .u64 9223372036854775808) (.int .u64 9218868437227405312) (.int .i64 52) (.int .i64 (-1074)) 55).drew.step hb; clear hb; obtain ⟨z2, _, a0, a1, a2, a3⟩ := T2.out))
  go_wp2
  go_ret2
  exact ⟨rfl, T2.out.bel⟩
set_option maxRecDepth 100000 in
set_option maxHeartbeats 1000000 in
theorem exact_low_64 {m : Nat} {p : Int} (hm : m < 18446744073709551616) (m0 : ((m : Int) == 0) = false) (hp0 : -9223372036854775808 ≤ p) (hp : ¬ 1023 < p) {u : Int} {z : Nat} (hu : min (53 - (ln m : Int)) (p + 1074) = u) (hz : ctzW (m : Int) = (z : Int)) (q : (z : Int) < -u) (w : World) (hT : Tab w) : Calls Tryd.prog 59 #[.agg #[.int .u64 9223372036854775808, .int .u64 9218868437227405312, .int .i64 52, .int .i64 (-1074)], .int .u64 (m : Int), .int .i64 p] w fun e w' => e = .returned (.tuple #[.int .u64 0, .iface 42 (.int .i64 4)]) ∧ Below w.heap.size w w' := by
  have HM := fun W => most_64 W
  have HR := fun W => room_64 (word_nat hm) (blen_ln m hm) hp0 (by omega : p ≤ 5000) W
  have HZ := fun W (g : Tab W) => tz64_any (m : Int) (word_nat hm) W g
  have HT : Hid (Tab w) := hT
  rw [hz] at HZ
  rw [hu] at HR
  have i1 : IntKind.i64.wrap 1023 = 1023 := by decide
  clear hT
  have u0 : -9223372036854775807 ≤ u := by have := (ln_iff m 64).2 hm; omega
  have u1 : u ≤ 53 := by omega
  clear hu hz hm
  go_enter Tryd.func59, Tryd.ntmps59
  go_wp2
  go_region_held3 (fun w' => w'.cell? ⟨w.heap.size, 0, none⟩ = some (.int .u64 9223372036854775808) ∧ w'.cell? ⟨w.heap.size, 1, none⟩ = some (.int .u64 9218868437227405312) ∧ w'.cell? ⟨w.heap.size, 2, none⟩ = some (.int .i64 52) ∧ w'.cell? ⟨w.heap.size, 3, none⟩ = some (.int .i64 (-1074))) (simp [*, go_sem])
    (first
      | (go_at_call 66; refine (HM _).mono ?_; rintro x1 w2 ⟨rfl, hb⟩; have T2 : Hid (ShB w w2 _ _ _ _) := (ShB.start w (.int .u64 9223372036854775808) (.int .u64 9218868437227405312) (.int .i64 52) (.int .i64 (-1074)) 55).drew.step hb; clear hb; obtain ⟨z2, _, a0, a1, a2, a3⟩ := T2.out))
  go_wp2_with fail
  refine (HR _).mono ?_
  rintro e w3 ⟨rfl, hb⟩
  have T3 : Hid (ShB w w3 _ _ _ _) := T2.out.step hb
  clear hb a0 a1 a2 a3
  obtain ⟨z3, _, b0, b1, b2, b3⟩ := T3.out
  go_wp2_with fail
  refine (HZ _ (HT.out.below T3.out.bel HT.out.pos)).mono ?_
  rintro e w3 ⟨rfl, rfl⟩
  go_wp2
  go_ret2
  exact ⟨rfl, T3.out.bel⟩
set_option maxRecDepth 100000 in
set_option maxHeartbeats 1000000 in
theorem exact_top_64 {m : Nat} {p : Int} (hm : m < 18446744073709551616) (m0 : ((m : Int) == 0) = false) (hp0 : -9223372036854775808 ≤ p) (hp : ¬ 1023 < p) {u : Int} {z : Nat} (hu : min (53 - (ln m : Int)) (p + 1074) = u) (hz : ctzW (m : Int) = (z : Int)) (q : ¬ (z : Int) < -u) (q2 : 971 < p - u) (w : World) (hT : Tab w) : Calls Tryd.prog 59 #[.agg #[.int .u64 9223372036854775808, .int .u64 9218868437227405312, .int .i64 52, .int .i64 (-1074)], .int .u64 (m : Int), .int .i64 p] w fun e w' => e = .returned (.tuple #[.int .u64 0, .iface 42 (.int .i64 4)]) ∧ Below w.heap.size w w' := by
  have HM := fun W => most_64 W
  have HR := fun W => room_64 (word_nat hm) (blen_ln m hm) hp0 (by omega : p ≤ 5000) W
  have HZ := fun W (g : Tab W) => tz64_any (m : Int) (word_nat hm) W g
  have HT : Hid (Tab w) := hT
  rw [hz] at HZ
  rw [hu] at HR
  have i1 : IntKind.i64.wrap 1023 = 1023 := by decide
  clear hT
  have u0 : -9223372036854775807 ≤ u := by have := (ln_iff m 64).2 hm; omega
  have u1 : u ≤ 53 := by omega
  have v0 : -100000 ≤ p - u := by have := (ln_iff m 64).2 hm; omega
  have v1 : p - u ≤ 100000 := by have := (ln_iff m 64).2 hm; omega
  clear hu hz hm
  go_enter Tryd.func59, Tryd.ntmps59
  go_wp2
  go_region_held3 (fun w' => w'.cell? ⟨w.heap.size, 0, none⟩ = some (.int .u64 9223372036854775808) ∧ w'.cell? ⟨w.heap.size, 1, none⟩ = some (.int .u64 9218868437227405312) ∧ w'.cell? ⟨w.heap.size, 2, none⟩ = some (.int .i64 52) ∧ w'.cell? ⟨w.heap.size, 3, none⟩ = some (.int .i64 (-1074))) (simp [*, go_sem])
    (first
      | (go_at_call 66; refine (HM _).mono ?_; rintro x1 w2 ⟨rfl, hb⟩; have T2 : Hid (ShB w w2 _ _ _ _) := (ShB.start w (.int .u64 9223372036854775808) (.int .u64 9218868437227405312) (.int .i64 52) (.int .i64 (-1074)) 55).drew.step hb; clear hb; obtain ⟨z2, _, a0, a1, a2, a3⟩ := T2.out))
  go_wp2_with fail
  refine (HR _).mono ?_
  rintro e w3 ⟨rfl, hb⟩
  have T3 : Hid (ShB w w3 _ _ _ _) := T2.out.step hb
  clear hb a0 a1 a2 a3
  obtain ⟨z3, _, b0, b1, b2, b3⟩ := T3.out
  go_wp2_with fail
  refine (HZ _ (HT.out.below T3.out.bel HT.out.pos)).mono ?_
  rintro e w3 ⟨rfl, rfl⟩
  go_wp2_with fail
  refine (HM _).mono ?_
  rintro e w4 ⟨rfl, hb⟩
  have T4 : Hid (ShB w w4 _ _ _ _) := T3.out.step hb
  clear hb b0 b1 b2 b3
  obtain ⟨z4, _, c0, c1, c2, c3⟩ := T4.out
  go_wp2
  go_ret2
  exact ⟨rfl, T4.out.bel⟩
set_option maxRecDepth 100000 in
set_option maxHeartbeats 1000000 in
theorem exact_up_64 {m : Nat} {p : Int} (hm : m < 18446744073709551616) (m0 : ((m : Int) == 0) = false) (hp0 : -9223372036854775808 ≤ p) (hp : ¬ 1023 < p) {u : Int} {z : Nat} (hu : min (53 - (ln m : Int)) (p + 1074) = u) (hz : ctzW (m : Int) = (z : Int)) (q : ¬ (z : Int) < -u) (q2 : ¬ 971 < p - u) (g : 0 < u) {X : Nat} (hX : (m : Int) * 2 ^ u.toNat = (X : Int)) (hx : X ≤ 9007199254740992) {k : Nat} (hk : p - u = (-1074) + (k : Int)) (hk2 : k ≤ 2047) (w : World) (hT : Tab w) : Calls Tryd.prog 59 #[.agg #[.int .u64 9223372036854775808, .int .u64 9218868437227405312, .int .i64 52, .int .i64 (-1074)], .int .u64 (m : Int), .int .i64 p] w fun e w' => e = .returned (.tuple #[.int .u64 ((k * 4503599627370496 + X : Nat) : Int), .nilIface]) ∧ Below w.heap.size w w' := by
  have HM := fun W => most_64 W
  have HR := fun W => room_64 (word_nat hm) (blen_ln m hm) hp0 (by omega : p ≤ 5000) W
  have HZ := fun W (g : Tab W) => tz64_any (m : Int) (word_nat hm) W g
  have HT : Hid (Tab w) := hT
  rw [hz] at HZ
  rw [hu] at HR
  have i1 : IntKind.i64.wrap 1023 = 1023 := by decide
  clear hT
  have u0 : -9223372036854775807 ≤ u := by have := (ln_iff m 64).2 hm; omega
  have u1 : u ≤ 53 := by omega
  have v0 : -100000 ≤ p - u := by have := (ln_iff m 64).2 hm; omega
  have v1 : p - u ≤ 100000 := by have := (ln_iff m 64).2 hm; omega
  have HY := fun W => lay_64 hk hk2 hx W
  have g1 : ¬ u < 0 := by omega
  have g2 : 0 ≤ u := by omega
  have g3 : -u < 0 := by omega
  have e1 : IntKind.i64.wrap (-u) = -u := IntWalk.i64_in _ ⟨by omega, by omega⟩
  have s1 : IntKind.u64.wrap ((m : Int) * 2 ^ u.toNat) = (X : Int) := by rw [hX, IntKind.wrap_u64]; omega
  have x1 : (if u < 0 then 0 else u) = u := if_neg g1
  have x2 : (if -u < 0 then 0 else -u) = 0 := if_pos g3
  have e2 : IntKind.i64.wrap (p - u) = p - u := IntWalk.i64_in _ ⟨by omega, by omega⟩
  clear hX
  generalize k * 4503599627370496 + X = R at *
  clear hu hz hm hk
  go_enter Tryd.func59, Tryd.ntmps59
  go_wp2
  go_region_held3 (fun w' => w'.cell? ⟨w.heap.size, 0, none⟩ = some (.int .u64 9223372036854775808) ∧ w'.cell? ⟨w.heap.size, 1, none⟩ = some (.int .u64 9218868437227405312) ∧ w'.cell? ⟨w.heap.size, 2, none⟩ = some (.int .i64 52) ∧ w'.cell? ⟨w.heap.size, 3, none⟩ = some (.int .i64 (-1074))) (simp [*, go_sem])
    (first
      | (go_at_call 66; refine (HM _).mono ?_; rintro x1 w2 ⟨rfl, hb⟩; have T2 : Hid (ShB w w2 _ _ _ _) := (ShB.start w (.int .u64 9223372036854775808) (.int .u64 9218868437227405312) (.int .i64 52) (.int .i64 (-1074)) 55).drew.step hb; clear hb; obtain ⟨z2, _, a0, a1, a2, a3⟩ := T2.out))
  go_wp2_with fail
  refine (HR _).mono ?_
  rintro e w3 ⟨rfl, hb⟩
  have T3 : Hid (ShB w w3 _ _ _ _) := T2.out.step hb
  clear hb a0 a1 a2 a3
  obtain ⟨z3, _, b0, b1, b2, b3⟩ := T3.out
  go_wp2_with fail
  refine (HZ _ (HT.out.below T3.out.bel HT.out.pos)).mono ?_
  rintro e w3 ⟨rfl, rfl⟩
  go_wp2_with fail
  refine (HM _).mono ?_
  rintro e w4 ⟨rfl, hb⟩
  have T4 : Hid (ShB w w4 _ _ _ _) := T3.out.step hb
  clear hb b0 b1 b2 b3
  obtain ⟨z4, _, c0, c1, c2, c3⟩ := T4.out
  go_wp2
  go_region_held3 (fun w' => w'.cell? ⟨w.heap.size, 0, none⟩ = some (.int .u64 9223372036854775808) ∧ w'.cell? ⟨w.heap.size, 1, none⟩ = some (.int .u64 9218868437227405312) ∧ w'.cell? ⟨w.heap.size, 2, none⟩ = some (.int .i64 52) ∧ w'.cell? ⟨w.heap.size, 3, none⟩ = some (.int .i64 (-1074))) (simp [*, go_sem])
    (first
      | (go_at_call 69; refine (HY _).mono ?_; rintro x5 w5 ⟨rfl, hb⟩; have T5 : Hid (ShB w w5 _ _ _ _) := T4.out.drew.step hb; clear hb; obtain ⟨z5, _, d0, d1, d2, d3⟩ := T5.out))
  all_goals
    go_wp2
    go_ret2
    exact ⟨rfl, T5.out.bel⟩
set_option maxRecDepth 100000 in
set_option maxHeartbeats 1000000 in
theorem exact_down_64 {m : Nat} {p : Int} (hm : m < 18446744073709551616) (m0 : ((m : Int) == 0) = false) (hp0 : -9223372036854775808 ≤ p) (hp : ¬ 1023 < p) {v : Int} {z : Nat} (hu : min (53 - (ln m : Int)) (p + 1074) = (-v)) (hz : ctzW (m : Int) = (z : Int)) (q : ¬ (z : Int) < v) (q2 : ¬ 971 < p + v) (g : 0 < v) (z1 : z < 64) {X : Nat} (hX : (m : Int) / 2 ^ v.toNat = (X : Int)) (hx : X ≤ 9007199254740992) {k : Nat} (hk : p + v = (-1074) + (k : Int)) (hk2 : k ≤ 2047) (w : World) (hT : Tab w) : Calls Tryd.prog 59 #[.agg #[.int .u64 9223372036854775808, .int .u64 9218868437227405312, .int .i64 52, .int .i64 (-1074)], .int .u64 (m : Int), .int .i64 p] w fun e w' => e = .returned (.tuple #[.int .u64 ((k * 4503599627370496 + X : Nat) : Int), .nilIface]) ∧ Below w.heap.size w w' := by
  have HM := fun W => most_64 W
  have HR := fun W => room_64 (word_nat hm) (blen_ln m hm) hp0 (by omega : p ≤ 5000) W
  have HZ := fun W (g : Tab W) => tz64_any (m : Int) (word_nat hm) W g
  have HT : Hid (Tab w) := hT
  rw [hz] at HZ
  rw [hu] at HR
  have i1 : IntKind.i64.wrap 1023 = 1023 := by decide
  clear hT
  have u0 : -9223372036854775807 ≤ (-v) := by have := (ln_iff m 64).2 hm; omega
  have u1 : (-v) ≤ 53 := by omega
  have v0 : -100000 ≤ p + v := by have := (ln_iff m 64).2 hm; omega
  have v1 : p + v ≤ 100000 := by have := (ln_iff m 64).2 hm; omega
  have HY := fun W => lay_64 hk hk2 hx W
  have g1 : ¬ v < 0 := by omega
  have g2 : 0 ≤ v := by omega
  have g3 : -v < 0 := by omega
  have e1 : IntKind.i64.wrap v = v := IntWalk.i64_in _ ⟨by omega, by omega⟩
  have s0 : IntKind.u64.wrap (m : Int) = (m : Int) := by rw [IntKind.wrap_u64]; omega
  have s1 : (m : Int) / 2 ^ min v.toNat 64 = (X : Int) := by rw [Nat.min_eq_left (by omega), hX]
  have x1 : (if -v < 0 then 0 else -v) = 0 := if_pos g3
  have x2 : (if v < 0 then 0 else v) = v := if_neg g1
  have e2 : IntKind.i64.wrap (p + v) = p + v := IntWalk.i64_in _ ⟨by omega, by omega⟩
  clear hX z1
  generalize k * 4503599627370496 + X = R at *
  clear hu hz hm hk
  go_enter Tryd.func59, Tryd.ntmps59
  go_wp2
  go_region_held3 (fun w' => w'.cell? ⟨w.heap.size, 0, none⟩ = some (.int .u64 9223372036854775808) ∧ w'.cell? ⟨w.heap.size, 1, none⟩ = some (.int .u64 9218868437227405312) ∧ w'.cell? ⟨w.heap.size, 2, none⟩ = some (.int .i64 52) ∧ w'.cell? ⟨w.heap.size, 3, none⟩ = some (.int .i64 (-1074))) (simp [*, go_sem])
    (first
      | (go_at_call 66; refine (HM _).mono ?_; rintro x1 w2 ⟨rfl, hb⟩; have T2 : Hid (ShB w w2 _ _ _ _) := (ShB.start w (.int .u64 9223372036854775808) (.int .u64 9218868437227405312) (.int .i64 52) (.int .i64 (-1074)) 55).drew.step hb; clear hb; obtain ⟨z2, _, a0, a1, a2, a3⟩ := T2.out))
  go_wp2_with fail
  refine (HR _).mono ?_
  rintro e w3 ⟨rfl, hb⟩
  have T3 : Hid (ShB w w3 _ _ _ _) := T2.out.step hb
  clear hb a0 a1 a2 a3
  obtain ⟨z3, _, b0, b1, b2, b3⟩ := T3.out
  go_wp2_with fail
  refine (HZ _ (HT.out.below T3.out.bel HT.out.pos)).mono ?_
  rintro e w3 ⟨rfl, rfl⟩
  go_wp2_with fail
  refine (HM _).mono ?_
  rintro e w4 ⟨rfl, hb⟩
  have T4 : Hid (ShB w w4 _ _ _ _) := T3.out.step hb
  clear hb b0 b1 b2 b3
  obtain ⟨z4, _, c0, c1, c2, c3⟩ := T4.out
  go_wp2
  go_region_held3 (fun w' => w'.cell? ⟨w.heap.size, 0, none⟩ = some (.int .u64 9223372036854775808) ∧ w'.cell? ⟨w.heap.size, 1, none⟩ = some (.int .u64 9218868437227405312) ∧ w'.cell? ⟨w.heap.size, 2, none⟩ = some (.int .i64 52) ∧ w'.cell? ⟨w.heap.size, 3, none⟩ = some (.int .i64 (-1074))) (simp [*, go_sem])
    (first
      | (go_at_call 69; refine (HY _).mono ?_; rintro x5 w5 ⟨rfl, hb⟩; have T5 : Hid (ShB w w5 _ _ _ _) := T4.out.drew.step hb; clear hb; obtain ⟨z5, _, d0, d1, d2, d3⟩ := T5.out))
  all_goals
    go_wp2
    go_ret2
    exact ⟨rfl, T5.out.bel⟩
set_option maxRecDepth 100000 in
set_option maxHeartbeats 1000000 in
theorem exact_even_64 {m : Nat} {p : Int} (hm : m < 18446744073709551616) (m0 : ((m : Int) == 0) = false) (hp0 : -9223372036854775808 ≤ p) (hp : ¬ 1023 < p) {z : Nat} (hu : min (53 - (ln m : Int)) (p + 1074) = 0) (hz : ctzW (m : Int) = (z : Int)) (q : 0 ≤ z) (q2 : ¬ 971 < p) {X : Nat} (hX : m = X) (hx : X ≤ 9007199254740992) {k : Nat} (hk : p = (-1074) + (k : Int)) (hk2 : k ≤ 2047) (w : World) (hT : Tab w) : Calls Tryd.prog 59 #[.agg #[.int .u64 9223372036854775808, .int .u64 9218868437227405312, .int .i64 52, .int .i64 (-1074)], .int .u64 (m : Int), .int .i64 p] w fun e w' => e = .returned (.tuple #[.int .u64 ((k * 4503599627370496 + X : Nat) : Int), .nilIface]) ∧ Below w.heap.size w w' := by
  have HM := fun W => most_64 W
  have HR := fun W => room_64 (word_nat hm) (blen_ln m hm) hp0 (by omega : p ≤ 5000) W
  have HZ := fun W (g : Tab W) => tz64_any (m : Int) (word_nat hm) W g
  have HT : Hid (Tab w) := hT
  rw [hz] at HZ
  rw [hu] at HR
  have i1 : IntKind.i64.wrap 1023 = 1023 := by decide
  clear hT
  have u0 : -9223372036854775807 ≤ 0 := by have := (ln_iff m 64).2 hm; omega
  have u1 : 0 ≤ 53 := by omega
  have v0 : -100000 ≤ p := by have := (ln_iff m 64).2 hm; omega
  have v1 : p ≤ 100000 := by have := (ln_iff m 64).2 hm; omega
  have HY := fun W => lay_64 hk hk2 hx W
  subst hX
  have s0 : IntKind.u64.wrap (m : Int) = (m : Int) := by rw [IntKind.wrap_u64]; omega
  have i0 : IntKind.i64.wrap 0 = 0 := by decide
  have e2 : IntKind.i64.wrap p = p := IntWalk.i64_in _ ⟨by omega, by omega⟩
  generalize k * 4503599627370496 + m = R at *
  clear hu hz hm hk
  go_enter Tryd.func59, Tryd.ntmps59
  go_wp2
  go_region_held3 (fun w' => w'.cell? ⟨w.heap.size, 0, none⟩ = some (.int .u64 9223372036854775808) ∧ w'.cell? ⟨w.heap.size, 1, none⟩ = some (.int .u64 9218868437227405312) ∧ w'.cell? ⟨w.heap.size, 2, none⟩ = some (.int .i64 52) ∧ w'.cell? ⟨w.heap.size, 3, none⟩ = some (.int .i64 (-1074))) (simp [*, go_sem])
    (first
      | (go_at_call 66; refine (HM _).mono ?_; rintro x1 w2 ⟨rfl, hb⟩; have T2 : Hid (ShB w w2 _ _ _ _) := (ShB.start w (.int .u64 9223372036854775808) (.int .u64 9218868437227405312) (.int .i64 52) (.int .i64 (-1074)) 55).drew.step hb; clear hb; obtain ⟨z2, _, a0, a1, a2, a3⟩ := T2.out))
  go_wp2_with fail
  refine (HR _).mono ?_
  rintro e w3 ⟨rfl, hb⟩
  have T3 : Hid (ShB w w3 _ _ _ _) := T2.out.step hb
  clear hb a0 a1 a2 a3
  obtain ⟨z3, _, b0, b1, b2, b3⟩ := T3.out
  go_wp2_with fail
  refine (HZ _ (HT.out.below T3.out.bel HT.out.pos)).mono ?_
  rintro e w3 ⟨rfl, rfl⟩
  go_wp2_with fail
  refine (HM _).mono ?_
  rintro e w4 ⟨rfl, hb⟩
  have T4 : Hid (ShB w w4 _ _ _ _) := T3.out.step hb
  clear hb b0 b1 b2 b3
  obtain ⟨z4, _, c0, c1, c2, c3⟩ := T4.out
  go_wp2
  go_region_held3 (fun w' => w'.cell? ⟨w.heap.size, 0, none⟩ = some (.int .u64 9223372036854775808) ∧ w'.cell? ⟨w.heap.size, 1, none⟩ = some (.int .u64 9218868437227405312) ∧ w'.cell? ⟨w.heap.size, 2, none⟩ = some (.int .i64 52) ∧ w'.cell? ⟨w.heap.size, 3, none⟩ = some (.int .i64 (-1074))) (simp [*, go_sem])
    (first
      | (go_at_call 69; refine (HY _).mono ?_; rintro x5 w5 ⟨rfl, hb⟩; have T5 : Hid (ShB w w5 _ _ _ _) := T4.out.drew.step hb; clear hb; obtain ⟨z5, _, d0, d1, d2, d3⟩ := T5.out))
  all_goals
    go_wp2
    go_ret2
    exact ⟨rfl, T5.out.bel⟩
/-- What is answered where a float, or none, has a value; the value with a sign. -/
def exV : Option Nat → Value
  | none => .tuple #[.int .u64 0, .iface 42 (.int .i64 4)]
  | some b => .tuple #[.int .u64 (b : Int), .nilIface]
theorem exactly_32 {m : Nat} {p : Int} (hm : m < 18446744073709551616) (m0 : m ≠ 0) (hp0 : -9223372036854775808 ≤ p) (w : World) (hT : Tab w) : Calls Tryd.prog 59 #[.agg #[.int .u64 2147483648, .int .u64 2139095040, .int .i64 23, .int .i64 (-149)], .int .u64 (m : Int), .int .i64 p] w fun e w' => e = .returned (exV (pk 23 255 (-149) m p)) ∧ Below w.heap.size w w' := by
  have n0 : ((m : Int) == 0) = false := by simp; omega
  by_cases hp : 127 < p
  · rw [pk_high (f := 23) (t := 255) (L := (-149)) (by decide) m0 (by omega)]
    exact exact_high_32 n0 hp w
  · obtain ⟨j, hj, z1⟩ := ctz_odd m0 hm
    obtain ⟨z, hz⟩ : ∃ z, z = Lib.ctz 64 m := ⟨_, rfl⟩
    rw [← hz] at hj z1
    have hz' : ctzW (m : Int) = (z : Int) := by unfold ctzW; rw [Int.toNat_natCast, hz]
    obtain ⟨u, hu⟩ : ∃ u, u = rm 23 (-149) m p := ⟨_, rfl⟩
    have hu' : min (24 - (ln m : Int)) (p + 149) = u := by rw [hu]; unfold rm; omega
    by_cases q : (z : Int) < -u
    · rw [pk_low (f := 23) (t := 255) (L := (-149)) hj (by rw [← hu]; exact q)]
      exact exact_low_32 hm n0 hp0 hp hu' hz' q w hT
    · have hq : ¬ (z : Int) < -(rm 23 (-149) m p) := by rw [← hu]; exact q
      obtain ⟨g, _, _⟩ := pl_ok (f := 23) (L := (-149)) hj hq
      rw [pk_place (f := 23) (t := 255) (L := (-149)) (by decide) hj hq, ← hu]
      rw [← hu] at g
      obtain ⟨g1, g2, _⟩ := g
      by_cases q2 : 104 < p - u
      · rw [if_pos (by omega)]
        exact exact_top_32 hm n0 hp0 hp hu' hz' q q2 w hT
      · rw [if_neg (by omega)]
        obtain ⟨k, hk⟩ : ∃ k : Nat, p - u = (-149) + (k : Int) := ⟨(p - u + 149).toNat, by omega⟩
        have hk2 : k ≤ 255 := by omega
        have el : ly 23 (-149) (pl m u) (p - u) = k * 8388608 + pl m u := by
          unfold ly
          rw [show (p - u - (-149)).toNat = k by omega]
        rw [el]
        have hx : pl m u ≤ 16777216 := by
          have : pl m u < 16777216 := g1
          omega
        clear g1 g2 el hu hq
        rcases Int.lt_trichotomy u 0 with c | c | c
        · obtain ⟨v, rfl⟩ : ∃ v, u = -v := ⟨-u, by omega⟩
          have e : pl m (-v) = m / 2 ^ v.toNat := by
            unfold pl
            rw [show (-v).toNat = 0 by omega, show (- -v).toNat = v.toNat by omega, Nat.pow_zero, Nat.mul_one]
          exact exact_down_32 hm n0 hp0 hp hu' hz' (by omega) (by omega) (by omega) z1 (X := pl m (-v)) (by rw [e]; simp) hx (by omega) hk2 w hT
        · subst c
          have e : m = pl m 0 := by
            unfold pl
            simp
          exact exact_even_32 hm n0 hp0 hp hu' hz' (by omega) (by omega) e hx (by omega) hk2 w hT
        · have e : pl m u = m * 2 ^ u.toNat := by
            unfold pl
            rw [show (-u).toNat = 0 by omega, Nat.pow_zero, Nat.div_one]
          exact exact_up_32 hm n0 hp0 hp hu' hz' q q2 c (X := pl m u) (by rw [e]; simp) hx hk hk2 w hT
theorem exactly_64 {m : Nat} {p : Int} (hm : m < 18446744073709551616) (m0 : m ≠ 0) (hp0 : -9223372036854775808 ≤ p) (w : World) (hT : Tab w) : Calls Tryd.prog 59 #[.agg #[.int .u64 9223372036854775808, .int .u64 9218868437227405312, .int .i64 52, .int .i64 (-1074)], .int .u64 (m : Int), .int .i64 p] w fun e w' => e = .returned (exV (pk 52 2047 (-1074) m p)) ∧ Below w.heap.size w w' := by
  have n0 : ((m : Int) == 0) = false := by simp; omega
  by_cases hp : 1023 < p
  · rw [pk_high (f := 52) (t := 2047) (L := (-1074)) (by decide) m0 (by omega)]
    exact exact_high_64 n0 hp w
  · obtain ⟨j, hj, z1⟩ := ctz_odd m0 hm
    obtain ⟨z, hz⟩ : ∃ z, z = Lib.ctz 64 m := ⟨_, rfl⟩
    rw [← hz] at hj z1
    have hz' : ctzW (m : Int) = (z : Int) := by unfold ctzW; rw [Int.toNat_natCast, hz]
    obtain ⟨u, hu⟩ : ∃ u, u = rm 52 (-1074) m p := ⟨_, rfl⟩
    have hu' : min (53 - (ln m : Int)) (p + 1074) = u := by rw [hu]; unfold rm; omega
    by_cases q : (z : Int) < -u
    · rw [pk_low (f := 52) (t := 2047) (L := (-1074)) hj (by rw [← hu]; exact q)]
      exact exact_low_64 hm n0 hp0 hp hu' hz' q w hT
    · have hq : ¬ (z : Int) < -(rm 52 (-1074) m p) := by rw [← hu]; exact q
      obtain ⟨g, _, _⟩ := pl_ok (f := 52) (L := (-1074)) hj hq
      rw [pk_place (f := 52) (t := 2047) (L := (-1074)) (by decide) hj hq, ← hu]
      rw [← hu] at g
      obtain ⟨g1, g2, _⟩ := g
      by_cases q2 : 971 < p - u
      · rw [if_pos (by omega)]
        exact exact_top_64 hm n0 hp0 hp hu' hz' q q2 w hT
      · rw [if_neg (by omega)]
        obtain ⟨k, hk⟩ : ∃ k : Nat, p - u = (-1074) + (k : Int) := ⟨(p - u + 1074).toNat, by omega⟩
        have hk2 : k ≤ 2047 := by omega
        have el : ly 52 (-1074) (pl m u) (p - u) = k * 4503599627370496 + pl m u := by
          unfold ly
          rw [show (p - u - (-1074)).toNat = k by omega]
        rw [el]
        have hx : pl m u ≤ 9007199254740992 := by
          have : pl m u < 9007199254740992 := g1
          omega
        clear g1 g2 el hu hq
        rcases Int.lt_trichotomy u 0 with c | c | c
        · obtain ⟨v, rfl⟩ : ∃ v, u = -v := ⟨-u, by omega⟩
          have e : pl m (-v) = m / 2 ^ v.toNat := by
            unfold pl
            rw [show (-v).toNat = 0 by omega, show (- -v).toNat = v.toNat by omega, Nat.pow_zero, Nat.mul_one]
          exact exact_down_64 hm n0 hp0 hp hu' hz' (by omega) (by omega) (by omega) z1 (X := pl m (-v)) (by rw [e]; simp) hx (by omega) hk2 w hT
        · subst c
          have e : m = pl m 0 := by
            unfold pl
            simp
          exact exact_even_64 hm n0 hp0 hp hu' hz' (by omega) (by omega) e hx (by omega) hk2 w hT
        · have e : pl m u = m * 2 ^ u.toNat := by
            unfold pl
            rw [show (-u).toNat = 0 by omega, Nat.pow_zero, Nat.div_one]
          exact exact_up_64 hm n0 hp0 hp hu' hz' q q2 c (X := pl m u) (by rw [e]; simp) hx hk hk2 w hT
theorem out_lt {f : Nat} {t L : Int} {M b : Nat} {E : Int} {T : Nat} (ht : t = (T : Int)) (hT : 0 < T) (h : out f t L M E = some b) : b < T * 2 ^ f := by
  unfold out at h
  have p := Nat.two_pow_pos f
  split at h
  · cases h
  · rename_i c
    split at h
    · cases h
      have : 1 * 2 ^ f ≤ T * 2 ^ f := Nat.mul_le_mul_right _ hT
      omega
    · rename_i k
      cases h
      have c1 : M < 2 ^ (f + 1) := by
        have : ¬ 2 ^ (f + 1) ≤ M := fun x => c (.inl x)
        omega
      rw [Nat.pow_succ] at c1
      have c2 : ¬ t ≤ E - L + 1 := fun x => c (.inr (.inr ⟨by omega, x⟩))
      have : ((E - L + 1).toNat + 1) * 2 ^ f ≤ T * 2 ^ f := Nat.mul_le_mul_right _ (by omega)
      rw [Nat.succ_mul] at this
      omega
theorem pk_lt {f : Nat} {t L : Int} {m b : Nat} {e : Int} {T : Nat} (ht : t = (T : Int)) (hT : 0 < T) (h : pk f t L m e = some b) : b < T * 2 ^ f := out_lt ht hT h
set_option maxRecDepth 100000 in
set_option maxHeartbeats 1000000 in
theorem pack_none_32 (c : Bool) {m : Nat} {p : Int} (hm : m < 18446744073709551616) (m0 : m ≠ 0) (hp0 : -9223372036854775808 ≤ p) (h : pk 23 255 (-149) m p = none) (w : World) (hT : Tab w) : Calls Tryd.prog 44 #[.agg #[.int .u64 2147483648, .int .u64 2139095040, .int .i64 23, .int .i64 (-149)], .agg #[.bool c, .int .i64 2, .int .u64 (m : Int), .int .i64 p]] w fun e w' => e = .returned (.tuple #[.int .u64 0, .iface 42 (.int .i64 4)]) ∧ Below w.heap.size w w' := by
  have HX := fun W (g : Tab W) => exactly_32 hm m0 hp0 W g
  rw [h] at HX
  unfold exV at HX
  have HT : Hid (Tab w) := hT
  clear hT h hm m0 hp0
  have H1 : Hid (FlB ((w.alloc (.cells #[.int .u64 2147483648, .int .u64 2139095040, .int .i64 23, .int .i64 (-149)] 55)).alloc (.cells #[.bool c, .int .i64 2, .int .u64 (m : Int), .int .i64 p] 79)) w.heap.size _ _ _ _) := (FlB.new w _ _ _ _ _).al _
  have H2 : Hid (FlB ((w.alloc (.cells #[.int .u64 2147483648, .int .u64 2139095040, .int .i64 23, .int .i64 (-149)] 55)).alloc (.cells #[.bool c, .int .i64 2, .int .u64 (m : Int), .int .i64 p] 79)) (w.heap.size + 1) _ _ _ _) := FlB.newAt _ _ _ _ _ _ (by simp)
  have B0 : Hid (Below w.heap.size w ((w.alloc (.cells #[.int .u64 2147483648, .int .u64 2139095040, .int .i64 23, .int .i64 (-149)] 55)).alloc (.cells #[.bool c, .int .i64 2, .int .u64 (m : Int), .int .i64 p] 79))) := ((Below.refl _ _).alloc (Nat.le_refl _) _).alloc (by simp) _
  have l0 : w.heap.size ≤ ((w.alloc (.cells #[.int .u64 2147483648, .int .u64 2139095040, .int .i64 23, .int .i64 (-149)] 55)).alloc (.cells #[.bool c, .int .i64 2, .int .u64 (m : Int), .int .i64 p] 79)).heap.size := by simp; omega
  go_enter Tryd.func44, Tryd.ntmps44
  go_wp2_with fail
  refine (HX _ (HT.out.below B0.out HT.out.pos)).mono ?_
  rintro e w1 ⟨rfl, hb⟩
  have B1 : Hid (Below w.heap.size w w1) := B0.out.trans (hb.mono l0)
  have l1 : w.heap.size ≤ w1.heap.size := Nat.le_trans l0 hb.size
  have H1n : Hid (FlB w1 _ _ _ _ _) := H1.out.step hb
  have H2n : Hid (FlB w1 _ _ _ _ _) := H2.out.step hb
  clear H1 H2 hb
  have H1 := H1n
  have H2 := H2n
  clear H1n H2n
  go_wp2
  go_ret2
  exact ⟨rfl, B1.out⟩
set_option maxRecDepth 100000 in
set_option maxHeartbeats 1000000 in
theorem pack_some_32 (c : Bool) {m b : Nat} {p : Int} (hm : m < 18446744073709551616) (m0 : m ≠ 0) (hp0 : -9223372036854775808 ≤ p) (h : pk 23 255 (-149) m p = some b) (w : World) (hT : Tab w) : Calls Tryd.prog 44 #[.agg #[.int .u64 2147483648, .int .u64 2139095040, .int .i64 23, .int .i64 (-149)], .agg #[.bool c, .int .i64 2, .int .u64 (m : Int), .int .i64 p]] w fun e w' => e = .returned (.tuple #[.int .u64 ((sgd 2147483648 c b : Nat) : Int), .nilIface]) ∧ Below w.heap.size w w' := by
  have HX := fun W (g : Tab W) => exactly_32 hm m0 hp0 W g
  rw [h] at HX
  unfold exV at HX
  have hl := pk_lt (T := 255) rfl (by decide) h
  have HS := fun W => signed_32 (x := b) (by omega) c W
  generalize sgd 2147483648 c b = r at *
  have HT : Hid (Tab w) := hT
  clear hT h hl hm m0 hp0
  have H1 : Hid (FlB ((w.alloc (.cells #[.int .u64 2147483648, .int .u64 2139095040, .int .i64 23, .int .i64 (-149)] 55)).alloc (.cells #[.bool c, .int .i64 2, .int .u64 (m : Int), .int .i64 p] 79)) w.heap.size _ _ _ _) := (FlB.new w _ _ _ _ _).al _
  have H2 : Hid (FlB ((w.alloc (.cells #[.int .u64 2147483648, .int .u64 2139095040, .int .i64 23, .int .i64 (-149)] 55)).alloc (.cells #[.bool c, .int .i64 2, .int .u64 (m : Int), .int .i64 p] 79)) (w.heap.size + 1) _ _ _ _) := FlB.newAt _ _ _ _ _ _ (by simp)
  have B0 : Hid (Below w.heap.size w ((w.alloc (.cells #[.int .u64 2147483648, .int .u64 2139095040, .int .i64 23, .int .i64 (-149)] 55)).alloc (.cells #[.bool c, .int .i64 2, .int .u64 (m : Int), .int .i64 p] 79))) := ((Below.refl _ _).alloc (Nat.le_refl _) _).alloc (by simp) _
  have l0 : w.heap.size ≤ ((w.alloc (.cells #[.int .u64 2147483648, .int .u64 2139095040, .int .i64 23, .int .i64 (-149)] 55)).alloc (.cells #[.bool c, .int .i64 2, .int .u64 (m : Int), .int .i64 p] 79)).heap.size := by simp; omega
  go_enter Tryd.func44, Tryd.ntmps44
  go_wp2_with fail
  refine (HX _ (HT.out.below B0.out HT.out.pos)).mono ?_
  rintro e w1 ⟨rfl, hb⟩
  have B1 : Hid (Below w.heap.size w w1) := B0.out.trans (hb.mono l0)
  have l1 : w.heap.size ≤ w1.heap.size := Nat.le_trans l0 hb.size
  have H1n : Hid (FlB w1 _ _ _ _ _) := H1.out.step hb
  have H2n : Hid (FlB w1 _ _ _ _ _) := H2.out.step hb
  clear H1 H2 hb
  have H1 := H1n
  have H2 := H2n
  clear H1n H2n
  obtain ⟨m1, a0, a1, a2, a3, _, _, _, _⟩ := H1.out
  obtain ⟨m2, b0, b1, b2, b3, _, _, _, _⟩ := H2.out
  go_wp2_with fail
  refine (HS _).mono ?_
  rintro e w2 ⟨rfl, hb⟩
  have B2 : Hid (Below w.heap.size w w2) := B1.out.trans (hb.mono l1)
  have l2 : w.heap.size ≤ w2.heap.size := Nat.le_trans l1 hb.size
  have H1n : Hid (FlB w2 _ _ _ _ _) := H1.out.step hb
  have H2n : Hid (FlB w2 _ _ _ _ _) := H2.out.step hb
  clear H1 H2 hb
  have H1 := H1n
  have H2 := H2n
  clear H1n H2n
  go_wp2
  go_ret2
  exact ⟨rfl, B2.out⟩
set_option maxRecDepth 100000 in
set_option maxHeartbeats 1000000 in
theorem pack_none_64 (c : Bool) {m : Nat} {p : Int} (hm : m < 18446744073709551616) (m0 : m ≠ 0) (hp0 : -9223372036854775808 ≤ p) (h : pk 52 2047 (-1074) m p = none) (w : World) (hT : Tab w) : Calls Tryd.prog 44 #[.agg #[.int .u64 9223372036854775808, .int .u64 9218868437227405312, .int .i64 52, .int .i64 (-1074)], .agg #[.bool c, .int .i64 2, .int .u64 (m : Int), .int .i64 p]] w fun e w' => e = .returned (.tuple #[.int .u64 0, .iface 42 (.int .i64 4)]) ∧ Below w.heap.size w w' := by
  have HX := fun W (g : Tab W) => exactly_64 hm m0 hp0 W g
  rw [h] at HX
  unfold exV at HX
  have HT : Hid (Tab w) := hT
  clear hT h hm m0 hp0
  have H1 : Hid (FlB ((w.alloc (.cells #[.int .u64 9223372036854775808, .int .u64 9218868437227405312, .int .i64 52, .int .i64 (-1074)] 55)).alloc (.cells #[.bool c, .int .i64 2, .int .u64 (m : Int), .int .i64 p] 79)) w.heap.size _ _ _ _) := (FlB.new w _ _ _ _ _).al _
  have H2 : Hid (FlB ((w.alloc (.cells #[.int .u64 9223372036854775808, .int .u64 9218868437227405312, .int .i64 52, .int .i64 (-1074)] 55)).alloc (.cells #[.bool c, .int .i64 2, .int .u64 (m : Int), .int .i64 p] 79)) (w.heap.size + 1) _ _ _ _) := FlB.newAt _ _ _ _ _ _ (by simp)
  have B0 : Hid (Below w.heap.size w ((w.alloc (.cells #[.int .u64 9223372036854775808, .int .u64 9218868437227405312, .int .i64 52, .int .i64 (-1074)] 55)).alloc (.cells #[.bool c, .int .i64 2, .int .u64 (m : Int), .int .i64 p] 79))) := ((Below.refl _ _).alloc (Nat.le_refl _) _).alloc (by simp) _
  have l0 : w.heap.size ≤ ((w.alloc (.cells #[.int .u64 9223372036854775808, .int .u64 9218868437227405312, .int .i64 52, .int .i64 (-1074)] 55)).alloc (.cells #[.bool c, .int .i64 2, .int .u64 (m : Int), .int .i64 p] 79)).heap.size := by simp; omega
  go_enter Tryd.func44, Tryd.ntmps44
  go_wp2_with fail
  refine (HX _ (HT.out.below B0.out HT.out.pos)).mono ?_
  rintro e w1 ⟨rfl, hb⟩
  have B1 : Hid (Below w.heap.size w w1) := B0.out.trans (hb.mono l0)
  have l1 : w.heap.size ≤ w1.heap.size := Nat.le_trans l0 hb.size
  have H1n : Hid (FlB w1 _ _ _ _ _) := H1.out.step hb
  have H2n : Hid (FlB w1 _ _ _ _ _) := H2.out.step hb
  clear H1 H2 hb
  have H1 := H1n
  have H2 := H2n
  clear H1n H2n
  go_wp2
  go_ret2
  exact ⟨rfl, B1.out⟩
set_option maxRecDepth 100000 in
set_option maxHeartbeats 1000000 in
theorem pack_some_64 (c : Bool) {m b : Nat} {p : Int} (hm : m < 18446744073709551616) (m0 : m ≠ 0) (hp0 : -9223372036854775808 ≤ p) (h : pk 52 2047 (-1074) m p = some b) (w : World) (hT : Tab w) : Calls Tryd.prog 44 #[.agg #[.int .u64 9223372036854775808, .int .u64 9218868437227405312, .int .i64 52, .int .i64 (-1074)], .agg #[.bool c, .int .i64 2, .int .u64 (m : Int), .int .i64 p]] w fun e w' => e = .returned (.tuple #[.int .u64 ((sgd 9223372036854775808 c b : Nat) : Int), .nilIface]) ∧ Below w.heap.size w w' := by
  have HX := fun W (g : Tab W) => exactly_64 hm m0 hp0 W g
  rw [h] at HX
  unfold exV at HX
  have hl := pk_lt (T := 2047) rfl (by decide) h
  have HS := fun W => signed_64 (x := b) (by omega) c W
  generalize sgd 9223372036854775808 c b = r at *
  have HT : Hid (Tab w) := hT
  clear hT h hl hm m0 hp0
  have H1 : Hid (FlB ((w.alloc (.cells #[.int .u64 9223372036854775808, .int .u64 9218868437227405312, .int .i64 52, .int .i64 (-1074)] 55)).alloc (.cells #[.bool c, .int .i64 2, .int .u64 (m : Int), .int .i64 p] 79)) w.heap.size _ _ _ _) := (FlB.new w _ _ _ _ _).al _
  have H2 : Hid (FlB ((w.alloc (.cells #[.int .u64 9223372036854775808, .int .u64 9218868437227405312, .int .i64 52, .int .i64 (-1074)] 55)).alloc (.cells #[.bool c, .int .i64 2, .int .u64 (m : Int), .int .i64 p] 79)) (w.heap.size + 1) _ _ _ _) := FlB.newAt _ _ _ _ _ _ (by simp)
  have B0 : Hid (Below w.heap.size w ((w.alloc (.cells #[.int .u64 9223372036854775808, .int .u64 9218868437227405312, .int .i64 52, .int .i64 (-1074)] 55)).alloc (.cells #[.bool c, .int .i64 2, .int .u64 (m : Int), .int .i64 p] 79))) := ((Below.refl _ _).alloc (Nat.le_refl _) _).alloc (by simp) _
  have l0 : w.heap.size ≤ ((w.alloc (.cells #[.int .u64 9223372036854775808, .int .u64 9218868437227405312, .int .i64 52, .int .i64 (-1074)] 55)).alloc (.cells #[.bool c, .int .i64 2, .int .u64 (m : Int), .int .i64 p] 79)).heap.size := by simp; omega
  go_enter Tryd.func44, Tryd.ntmps44
  go_wp2_with fail
  refine (HX _ (HT.out.below B0.out HT.out.pos)).mono ?_
  rintro e w1 ⟨rfl, hb⟩
  have B1 : Hid (Below w.heap.size w w1) := B0.out.trans (hb.mono l0)
  have l1 : w.heap.size ≤ w1.heap.size := Nat.le_trans l0 hb.size
  have H1n : Hid (FlB w1 _ _ _ _ _) := H1.out.step hb
  have H2n : Hid (FlB w1 _ _ _ _ _) := H2.out.step hb
  clear H1 H2 hb
  have H1 := H1n
  have H2 := H2n
  clear H1n H2n
  obtain ⟨m1, a0, a1, a2, a3, _, _, _, _⟩ := H1.out
  obtain ⟨m2, b0, b1, b2, b3, _, _, _, _⟩ := H2.out
  go_wp2_with fail
  refine (HS _).mono ?_
  rintro e w2 ⟨rfl, hb⟩
  have B2 : Hid (Below w.heap.size w w2) := B1.out.trans (hb.mono l1)
  have l2 : w.heap.size ≤ w2.heap.size := Nat.le_trans l1 hb.size
  have H1n : Hid (FlB w2 _ _ _ _ _) := H1.out.step hb
  have H2n : Hid (FlB w2 _ _ _ _ _) := H2.out.step hb
  clear H1 H2 hb
  have H1 := H1n
  have H2 := H2n
  clear H1n H2n
  go_wp2
  go_ret2
  exact ⟨rfl, B2.out⟩
set_option maxRecDepth 100000 in
set_option maxHeartbeats 1000000 in
theorem pk_of_32 {c : Bool} {k m p y : Int} {V : Value} (w : World) (hT : Tab w) (HP : ∀ W, Tab W → Calls Tryd.prog 44 #[.agg #[.int .u64 2147483648, .int .u64 2139095040, .int .i64 23, .int .i64 (-149)], .agg #[.bool c, .int .i64 k, .int .u64 m, .int .i64 p]] W fun e w' => e = .returned (.tuple #[.int .u64 y, V]) ∧ Below W.heap.size W w') : Calls Tryd.prog 32 #[.agg #[.bool c, .int .i64 k, .int .u64 m, .int .i64 p], .int .i64 32] w fun e w' => e = .returned (.tuple #[.int .u64 y, V]) ∧ Below w.heap.size w w' := by
  have H := fun W => shapeOf_32 W
  have HT : Hid (Tab w) := hT
  clear hT
  go_enter Tryd.func32, Tryd.ntmps32
  go_wp2_with fail
  refine (H _).mono ?_
  rintro e w1 ⟨rfl, hb⟩
  have B1 : Hid (Below w.heap.size w w1) := ((Below.refl _ _).alloc (Nat.le_refl _) _).trans (hb.mono (by simp))
  have T1 : Hid (FlB w1 w.heap.size _ _ _ _) := (FlB.new w (.bool c) (.int .i64 k) (.int .u64 m) (.int .i64 p) 79).step hb
  clear hb
  obtain ⟨l, a0, a1, a2, a3, _, _, _, _⟩ := T1.out
  go_wp2_with fail
  refine (HP _ (HT.out.below (B1.out.alloc (Nat.le_of_lt l) _) HT.out.pos)).mono ?_
  rintro e w2 ⟨rfl, hb⟩
  have B2 : Hid (Below w.heap.size w w2) := (B1.out.alloc (Nat.le_of_lt l) _).trans (hb.mono (by simp; omega))
  clear hb
  go_wp2
  go_ret2
  exact ⟨rfl, B2.out⟩
set_option maxRecDepth 100000 in
set_option maxHeartbeats 1000000 in
theorem pk_of_64 {c : Bool} {k m p y : Int} {V : Value} (w : World) (hT : Tab w) (HP : ∀ W, Tab W → Calls Tryd.prog 44 #[.agg #[.int .u64 9223372036854775808, .int .u64 9218868437227405312, .int .i64 52, .int .i64 (-1074)], .agg #[.bool c, .int .i64 k, .int .u64 m, .int .i64 p]] W fun e w' => e = .returned (.tuple #[.int .u64 y, V]) ∧ Below W.heap.size W w') : Calls Tryd.prog 32 #[.agg #[.bool c, .int .i64 k, .int .u64 m, .int .i64 p], .int .i64 64] w fun e w' => e = .returned (.tuple #[.int .u64 y, V]) ∧ Below w.heap.size w w' := by
  have H := fun W => shapeOf_64 W
  have HT : Hid (Tab w) := hT
  clear hT
  go_enter Tryd.func32, Tryd.ntmps32
  go_wp2_with fail
  refine (H _).mono ?_
  rintro e w1 ⟨rfl, hb⟩
  have B1 : Hid (Below w.heap.size w w1) := ((Below.refl _ _).alloc (Nat.le_refl _) _).trans (hb.mono (by simp))
  have T1 : Hid (FlB w1 w.heap.size _ _ _ _) := (FlB.new w (.bool c) (.int .i64 k) (.int .u64 m) (.int .i64 p) 79).step hb
  clear hb
  obtain ⟨l, a0, a1, a2, a3, _, _, _, _⟩ := T1.out
  go_wp2_with fail
  refine (HP _ (HT.out.below (B1.out.alloc (Nat.le_of_lt l) _) HT.out.pos)).mono ?_
  rintro e w2 ⟨rfl, hb⟩
  have B2 : Hid (Below w.heap.size w w2) := (B1.out.alloc (Nat.le_of_lt l) _).trans (hb.mono (by simp; omega))
  clear hb
  go_wp2
  go_ret2
  exact ⟨rfl, B2.out⟩
end Go.Proofs.YtkmnkogbafhfdaaDoor
