/-
  The law HexinSame: twice the mantissa with one less in the exponent is the same float; a greater mantissa is no lesser float; the sign changes the sign alone.
-/
import Derived.Test.YtkmnkogbafhfdaaDoorHxS
import Derived.Deep.RegionHeld3
namespace Go.Proofs.YtkmnkogbafhfdaaDoor
open Go.RowKit

theorem hxA_false (f T : Nat) (L : Int) (m : Nat) (e : Int) : hxA f T L m e false = some (rdA f T L m 1 e false) := by
  unfold hxA
  rw [if_neg (by simp)]
theorem or_high {x g t : Nat} (hg : g = 2 ^ t) (ht : t ≤ 63) (h : x < g) : bits .or .u64 (x : Int) (g : Int) = ((x + g : Nat) : Int) := by
  have p : 2 ^ t < 2 ^ 64 := Nat.pow_lt_pow_right (by decide) (by omega)
  rw [bits_or_u64_nat _ _ (by omega) (by omega)]
  have s := or_sum (a := x) (b := 1) (t := t) (by omega)
  rw [Nat.one_mul, ← hg] at s
  rw [s]

set_option maxRecDepth 100000 in
set_option maxHeartbeats 4000000 in
theorem hsame_no {c r : Bool} {m a y b : Nat} {e e' : Int} {s : Int} (h1 : (s != 32) = true) (h2 : (s != 64) = true) (hm : m < 18446744073709551616) (hy : y < 18446744073709551616) (ha : a = m / 4) (hb : b = y / 4) (he : e' = clK 1099511627776 e)
    (R1 : ∀ W, Tab W → Calls Tryd.prog 9 #[.bool false, .int .u64 (a : Int), .int .i64 e', .bool false, .int .i64 s] W fun x w' => x = .returned (.tuple #[.int .u64 0, .iface 42 (.int .i64 5)]) ∧ Below W.heap.size W w')
    (R2 : ∀ W, Tab W → Calls Tryd.prog 9 #[.bool false, .int .u64 ((2 * a : Nat) : Int), .int .i64 (e' - 1), .bool false, .int .i64 s] W fun x w' => x = .returned (.tuple #[.int .u64 0, .iface 42 (.int .i64 5)]) ∧ Below W.heap.size W w')
    (R3 : ∀ W, Tab W → Calls Tryd.prog 9 #[.bool false, .int .u64 ((a + b : Nat) : Int), .int .i64 e', .bool false, .int .i64 s] W fun x w' => x = .returned (.tuple #[.int .u64 0, .iface 42 (.int .i64 5)]) ∧ Below W.heap.size W w')
    (R4 : ∀ W, Tab W → Calls Tryd.prog 9 #[.bool true, .int .u64 (a : Int), .int .i64 e', .bool false, .int .i64 s] W fun x w' => x = .returned (.tuple #[.int .u64 0, .iface 42 (.int .i64 5)]) ∧ Below W.heap.size W w')
    (N : ∀ W, ErrT W → Calls Tryd.prog 7 #[.iface 42 (.int .i64 5)] W fun x w' => x = .returned (.int .i64 5) ∧ Below W.heap.size W w') (w : World) (hE : ErrT w) (hT : Tab w) :
    Calls Tryd.prog 4 #[.agg #[.bool c, .int .u64 (m : Int), .int .i64 e, .bool r], .int .u64 (y : Int), .int .i64 s] w fun x w' => x = .returned (.bool true) ∧ Below w.heap.size w w' := by
  have S := fun W hW => sure17 W hW
  have HG : Hid (ErrT w) := hE
  have HT : Hid (Tab w) := hT
  have HEE : Hid (e' = clK 1099511627776 e) := he
  have HA : Hid (m < 18446744073709551616 ∧ y < 18446744073709551616 ∧ a = m / 4 ∧ b = y / 4) := ⟨hm, hy, ha, hb⟩
  have B0 : Hid (Below w.heap.size w (w.alloc (.cells #[.bool c, .int .u64 (m : Int), .int .i64 e, .bool r] 37)).drew) := ((Below.refl _ _).alloc (Nat.le_refl _) _).drew
  clear hE hT he ha hb hm hy
  go_enter Tryd.func4, Tryd.ntmps4
  go_upto_region 1 with fail
  go_region_held3 (fun w' => w'.cell? ⟨w.heap.size, 1, none⟩ = some (.int .u64 (m : Int)) ∧ w'.cell? ⟨w.heap.size, 2, none⟩ = some (.int .i64 e)) (simp [go_sem]) (fail)
  rw [show (m : Int) / 4 = (a : Int) from by have := HA.out; omega]
  generalize (w.alloc (.cells #[.bool c, .int .u64 (m : Int), .int .i64 e, .bool r] 37)).drew = w0 at *
  go_upto_region 2 with fail
  go_cut [8] (fun ev wx => wx = w0 ∧ ev = .int .i64 e')
  case first =>
    go_wp2
    all_goals go_meet
    all_goals exact ⟨rfl, congrArg (Value.int .i64) (by have := HEE.out; unfold clK at this; omega)⟩
  case rest =>
  obtain ⟨hcw, rfl⟩ := hcut
  have hcw2 := hcw.symm
  subst hcw2
  have eb1 : -1099511627776 ≤ e' := by rw [HEE.out]; unfold clK; omega
  have eb2 : e' ≤ 1099511627776 := by rw [HEE.out]; unfold clK; omega
  have A4 : a < 4611686018427387904 := by have := HA.out; omega
  have A5 : y < 18446744073709551616 := HA.out.2.1
  go_wp2_with fail
  refine (R1 _ (HT.out.below B0.out HT.out.pos)).mono ?_
  rintro x w1 ⟨rfl, hb⟩
  have B1 : Hid (Below w.heap.size w w1) := B0.out.trans (hb.mono B0.out.size)
  clear hb
  go_wp2_with fail
  refine (R2 _ (HT.out.below B1.out HT.out.pos)).mono ?_
  rintro x w2 ⟨rfl, hb⟩
  have B2 : Hid (Below w.heap.size w w2) := B1.out.trans (hb.mono B1.out.size)
  clear hb
  go_wp2_with fail
  rw [show (y : Int) / 4 = (b : Int) from by have := HA.out; omega, show (a : Int) + (b : Int) = ((a + b : Nat) : Int) from by omega]
  refine (R3 _ (HT.out.below B2.out HT.out.pos)).mono ?_
  rintro x w3 ⟨rfl, hb⟩
  have B3 : Hid (Below w.heap.size w w3) := B2.out.trans (hb.mono B2.out.size)
  clear hb
  go_wp2_with fail
  refine (R4 _ (HT.out.below B3.out HT.out.pos)).mono ?_
  rintro x w4 ⟨rfl, hb⟩
  have B4 : Hid (Below w.heap.size w w4) := B3.out.trans (hb.mono B3.out.size)
  clear hb
  go_wp2_with fail
  refine (N _ (HG.out.below B4.out HG.out.pos)).mono ?_
  rintro x w5 ⟨rfl, hb⟩
  have B5 : Hid (Below w.heap.size w w5) := B4.out.trans (hb.mono B4.out.size)
  clear hb
  go_wp2_with fail
  refine (N _ (HG.out.below B5.out HG.out.pos)).mono ?_
  rintro x w6 ⟨rfl, hb⟩
  have B6 : Hid (Below w.heap.size w w6) := B5.out.trans (hb.mono B5.out.size)
  clear hb
  go_wp2_with fail
  refine (N _ (HG.out.below B6.out HG.out.pos)).mono ?_
  rintro x w7 ⟨rfl, hb⟩
  have B7 : Hid (Below w.heap.size w w7) := B6.out.trans (hb.mono B6.out.size)
  clear hb
  go_wp2_with fail
  refine (N _ (HG.out.below B7.out HG.out.pos)).mono ?_
  rintro x w8 ⟨rfl, hb⟩
  have B8 : Hid (Below w.heap.size w w8) := B7.out.trans (hb.mono B7.out.size)
  clear hb
  go_wp2_with fail
  refine (S _ (HT.out.below B8.out HT.out.pos)).mono ?_
  rintro x w9 ⟨rfl, hb⟩
  have B9 : Hid (Below w.heap.size w w9) := B8.out.trans (hb.mono B8.out.size)
  clear hb
  go_wp2
  go_ret
  exact ⟨rfl, B9.out⟩
set_option maxRecDepth 100000 in
set_option maxHeartbeats 4000000 in
theorem hsame_32 {c r : Bool} {m a y b : Nat} {e e' : Int} {E V : Value} {p q : Nat} {k : Int} (hp : p < 2147483648) (hpq : p ≤ q) (hm : m < 18446744073709551616) (hy : y < 18446744073709551616) (ha : a = m / 4) (hb : b = y / 4) (he : e' = clK 1099511627776 e)
    (R1 : ∀ W, Tab W → Calls Tryd.prog 9 #[.bool false, .int .u64 (a : Int), .int .i64 e', .bool false, .int .i64 32] W fun x w' => x = .returned (.tuple #[.int .u64 (p : Int), E]) ∧ Below W.heap.size W w')
    (R2 : ∀ W, Tab W → Calls Tryd.prog 9 #[.bool false, .int .u64 ((2 * a : Nat) : Int), .int .i64 (e' - 1), .bool false, .int .i64 32] W fun x w' => x = .returned (.tuple #[.int .u64 (p : Int), E]) ∧ Below W.heap.size W w')
    (R3 : ∀ W, Tab W → Calls Tryd.prog 9 #[.bool false, .int .u64 ((a + b : Nat) : Int), .int .i64 e', .bool false, .int .i64 32] W fun x w' => x = .returned (.tuple #[.int .u64 (q : Int), V]) ∧ Below W.heap.size W w')
    (R4 : ∀ W, Tab W → Calls Tryd.prog 9 #[.bool true, .int .u64 (a : Int), .int .i64 e', .bool false, .int .i64 32] W fun x w' => x = .returned (.tuple #[.int .u64 ((p + 2147483648 : Nat) : Int), E]) ∧ Below W.heap.size W w')
    (N : ∀ W, ErrT W → Calls Tryd.prog 7 #[E] W fun x w' => x = .returned (.int .i64 k) ∧ Below W.heap.size W w') (w : World) (hE : ErrT w) (hT : Tab w) :
    Calls Tryd.prog 4 #[.agg #[.bool c, .int .u64 (m : Int), .int .i64 e, .bool r], .int .u64 (y : Int), .int .i64 32] w fun x w' => x = .returned (.bool true) ∧ Below w.heap.size w w' := by
  have OR := or_high (x := p) (g := 2147483648) (t := 31) (by decide) (by decide) hp
  rw [show ((2147483648 : Nat) : Int) = 2147483648 from rfl] at OR
  clear hp
  have S := fun W hW => sure17 W hW
  have HG : Hid (ErrT w) := hE
  have HT : Hid (Tab w) := hT
  have HEE : Hid (e' = clK 1099511627776 e) := he
  have HA : Hid (m < 18446744073709551616 ∧ y < 18446744073709551616 ∧ a = m / 4 ∧ b = y / 4) := ⟨hm, hy, ha, hb⟩
  have B0 : Hid (Below w.heap.size w (w.alloc (.cells #[.bool c, .int .u64 (m : Int), .int .i64 e, .bool r] 37)).drew) := ((Below.refl _ _).alloc (Nat.le_refl _) _).drew
  clear hE hT he ha hb hm hy
  go_enter Tryd.func4, Tryd.ntmps4
  go_upto_region 1 with fail
  go_region_held3 (fun w' => w'.cell? ⟨w.heap.size, 1, none⟩ = some (.int .u64 (m : Int)) ∧ w'.cell? ⟨w.heap.size, 2, none⟩ = some (.int .i64 e)) (simp [go_sem]) (fail)
  rw [show (m : Int) / 4 = (a : Int) from by have := HA.out; omega]
  generalize (w.alloc (.cells #[.bool c, .int .u64 (m : Int), .int .i64 e, .bool r] 37)).drew = w0 at *
  go_upto_region 2 with fail
  go_cut [8] (fun ev wx => wx = w0 ∧ ev = .int .i64 e')
  case first =>
    go_wp2
    all_goals go_meet
    all_goals exact ⟨rfl, congrArg (Value.int .i64) (by have := HEE.out; unfold clK at this; omega)⟩
  case rest =>
  obtain ⟨hcw, rfl⟩ := hcut
  have hcw2 := hcw.symm
  subst hcw2
  have eb1 : -1099511627776 ≤ e' := by rw [HEE.out]; unfold clK; omega
  have eb2 : e' ≤ 1099511627776 := by rw [HEE.out]; unfold clK; omega
  have A4 : a < 4611686018427387904 := by have := HA.out; omega
  have A5 : y < 18446744073709551616 := HA.out.2.1
  go_wp2_with fail
  refine (R1 _ (HT.out.below B0.out HT.out.pos)).mono ?_
  rintro x w1 ⟨rfl, hb⟩
  have B1 : Hid (Below w.heap.size w w1) := B0.out.trans (hb.mono B0.out.size)
  clear hb
  go_wp2_with fail
  refine (R2 _ (HT.out.below B1.out HT.out.pos)).mono ?_
  rintro x w2 ⟨rfl, hb⟩
  have B2 : Hid (Below w.heap.size w w2) := B1.out.trans (hb.mono B1.out.size)
  clear hb
  go_wp2_with fail
  rw [show (y : Int) / 4 = (b : Int) from by have := HA.out; omega, show (a : Int) + (b : Int) = ((a + b : Nat) : Int) from by omega]
  refine (R3 _ (HT.out.below B2.out HT.out.pos)).mono ?_
  rintro x w3 ⟨rfl, hb⟩
  have B3 : Hid (Below w.heap.size w w3) := B2.out.trans (hb.mono B2.out.size)
  clear hb
  go_wp2_with fail
  refine (R4 _ (HT.out.below B3.out HT.out.pos)).mono ?_
  rintro x w4 ⟨rfl, hb⟩
  have B4 : Hid (Below w.heap.size w w4) := B3.out.trans (hb.mono B3.out.size)
  clear hb
  go_wp2_with fail
  refine (N _ (HG.out.below B4.out HG.out.pos)).mono ?_
  rintro x w5 ⟨rfl, hb⟩
  have B5 : Hid (Below w.heap.size w w5) := B4.out.trans (hb.mono B4.out.size)
  clear hb
  go_wp2_with fail
  refine (N _ (HG.out.below B5.out HG.out.pos)).mono ?_
  rintro x w6 ⟨rfl, hb⟩
  have B6 : Hid (Below w.heap.size w w6) := B5.out.trans (hb.mono B5.out.size)
  clear hb
  go_wp2_with fail
  refine (N _ (HG.out.below B6.out HG.out.pos)).mono ?_
  rintro x w7 ⟨rfl, hb⟩
  have B7 : Hid (Below w.heap.size w w7) := B6.out.trans (hb.mono B6.out.size)
  clear hb
  go_wp2_with fail
  refine (N _ (HG.out.below B7.out HG.out.pos)).mono ?_
  rintro x w8 ⟨rfl, hb⟩
  have B8 : Hid (Below w.heap.size w w8) := B7.out.trans (hb.mono B7.out.size)
  clear hb
  go_wp2_with fail
  refine (S _ (HT.out.below B8.out HT.out.pos)).mono ?_
  rintro x w9 ⟨rfl, hb⟩
  have B9 : Hid (Below w.heap.size w w9) := B8.out.trans (hb.mono B8.out.size)
  clear hb
  go_wp2
  go_ret
  exact ⟨rfl, B9.out⟩
set_option maxRecDepth 100000 in
set_option maxHeartbeats 4000000 in
theorem hsame_64 {c r : Bool} {m a y b : Nat} {e e' : Int} {E V : Value} {p q : Nat} {k : Int} (hp : p < 9223372036854775808) (hpq : p ≤ q) (hm : m < 18446744073709551616) (hy : y < 18446744073709551616) (ha : a = m / 4) (hb : b = y / 4) (he : e' = clK 1099511627776 e)
    (R1 : ∀ W, Tab W → Calls Tryd.prog 9 #[.bool false, .int .u64 (a : Int), .int .i64 e', .bool false, .int .i64 64] W fun x w' => x = .returned (.tuple #[.int .u64 (p : Int), E]) ∧ Below W.heap.size W w')
    (R2 : ∀ W, Tab W → Calls Tryd.prog 9 #[.bool false, .int .u64 ((2 * a : Nat) : Int), .int .i64 (e' - 1), .bool false, .int .i64 64] W fun x w' => x = .returned (.tuple #[.int .u64 (p : Int), E]) ∧ Below W.heap.size W w')
    (R3 : ∀ W, Tab W → Calls Tryd.prog 9 #[.bool false, .int .u64 ((a + b : Nat) : Int), .int .i64 e', .bool false, .int .i64 64] W fun x w' => x = .returned (.tuple #[.int .u64 (q : Int), V]) ∧ Below W.heap.size W w')
    (R4 : ∀ W, Tab W → Calls Tryd.prog 9 #[.bool true, .int .u64 (a : Int), .int .i64 e', .bool false, .int .i64 64] W fun x w' => x = .returned (.tuple #[.int .u64 ((p + 9223372036854775808 : Nat) : Int), E]) ∧ Below W.heap.size W w')
    (N : ∀ W, ErrT W → Calls Tryd.prog 7 #[E] W fun x w' => x = .returned (.int .i64 k) ∧ Below W.heap.size W w') (w : World) (hE : ErrT w) (hT : Tab w) :
    Calls Tryd.prog 4 #[.agg #[.bool c, .int .u64 (m : Int), .int .i64 e, .bool r], .int .u64 (y : Int), .int .i64 64] w fun x w' => x = .returned (.bool true) ∧ Below w.heap.size w w' := by
  have OR := or_high (x := p) (g := 9223372036854775808) (t := 63) (by decide) (by decide) hp
  rw [show ((9223372036854775808 : Nat) : Int) = 9223372036854775808 from rfl] at OR
  clear hp
  have S := fun W hW => sure17 W hW
  have HG : Hid (ErrT w) := hE
  have HT : Hid (Tab w) := hT
  have HEE : Hid (e' = clK 1099511627776 e) := he
  have HA : Hid (m < 18446744073709551616 ∧ y < 18446744073709551616 ∧ a = m / 4 ∧ b = y / 4) := ⟨hm, hy, ha, hb⟩
  have B0 : Hid (Below w.heap.size w (w.alloc (.cells #[.bool c, .int .u64 (m : Int), .int .i64 e, .bool r] 37)).drew) := ((Below.refl _ _).alloc (Nat.le_refl _) _).drew
  clear hE hT he ha hb hm hy
  go_enter Tryd.func4, Tryd.ntmps4
  go_upto_region 1 with fail
  go_region_held3 (fun w' => w'.cell? ⟨w.heap.size, 1, none⟩ = some (.int .u64 (m : Int)) ∧ w'.cell? ⟨w.heap.size, 2, none⟩ = some (.int .i64 e)) (simp [go_sem]) (fail)
  rw [show (m : Int) / 4 = (a : Int) from by have := HA.out; omega]
  generalize (w.alloc (.cells #[.bool c, .int .u64 (m : Int), .int .i64 e, .bool r] 37)).drew = w0 at *
  go_upto_region 2 with fail
  go_cut [8] (fun ev wx => wx = w0 ∧ ev = .int .i64 e')
  case first =>
    go_wp2
    all_goals go_meet
    all_goals exact ⟨rfl, congrArg (Value.int .i64) (by have := HEE.out; unfold clK at this; omega)⟩
  case rest =>
  obtain ⟨hcw, rfl⟩ := hcut
  have hcw2 := hcw.symm
  subst hcw2
  have eb1 : -1099511627776 ≤ e' := by rw [HEE.out]; unfold clK; omega
  have eb2 : e' ≤ 1099511627776 := by rw [HEE.out]; unfold clK; omega
  have A4 : a < 4611686018427387904 := by have := HA.out; omega
  have A5 : y < 18446744073709551616 := HA.out.2.1
  go_wp2_with fail
  refine (R1 _ (HT.out.below B0.out HT.out.pos)).mono ?_
  rintro x w1 ⟨rfl, hb⟩
  have B1 : Hid (Below w.heap.size w w1) := B0.out.trans (hb.mono B0.out.size)
  clear hb
  go_wp2_with fail
  refine (R2 _ (HT.out.below B1.out HT.out.pos)).mono ?_
  rintro x w2 ⟨rfl, hb⟩
  have B2 : Hid (Below w.heap.size w w2) := B1.out.trans (hb.mono B1.out.size)
  clear hb
  go_wp2_with fail
  rw [show (y : Int) / 4 = (b : Int) from by have := HA.out; omega, show (a : Int) + (b : Int) = ((a + b : Nat) : Int) from by omega]
  refine (R3 _ (HT.out.below B2.out HT.out.pos)).mono ?_
  rintro x w3 ⟨rfl, hb⟩
  have B3 : Hid (Below w.heap.size w w3) := B2.out.trans (hb.mono B2.out.size)
  clear hb
  go_wp2_with fail
  refine (R4 _ (HT.out.below B3.out HT.out.pos)).mono ?_
  rintro x w4 ⟨rfl, hb⟩
  have B4 : Hid (Below w.heap.size w w4) := B3.out.trans (hb.mono B3.out.size)
  clear hb
  go_wp2_with fail
  refine (N _ (HG.out.below B4.out HG.out.pos)).mono ?_
  rintro x w5 ⟨rfl, hb⟩
  have B5 : Hid (Below w.heap.size w w5) := B4.out.trans (hb.mono B4.out.size)
  clear hb
  go_wp2_with fail
  refine (N _ (HG.out.below B5.out HG.out.pos)).mono ?_
  rintro x w6 ⟨rfl, hb⟩
  have B6 : Hid (Below w.heap.size w w6) := B5.out.trans (hb.mono B5.out.size)
  clear hb
  go_wp2_with fail
  refine (N _ (HG.out.below B6.out HG.out.pos)).mono ?_
  rintro x w7 ⟨rfl, hb⟩
  have B7 : Hid (Below w.heap.size w w7) := B6.out.trans (hb.mono B6.out.size)
  clear hb
  go_wp2_with fail
  refine (N _ (HG.out.below B7.out HG.out.pos)).mono ?_
  rintro x w8 ⟨rfl, hb⟩
  have B8 : Hid (Below w.heap.size w w8) := B7.out.trans (hb.mono B7.out.size)
  clear hb
  go_wp2_with fail
  refine (S _ (HT.out.below B8.out HT.out.pos)).mono ?_
  rintro x w9 ⟨rfl, hb⟩
  have B9 : Hid (Below w.heap.size w w9) := B8.out.trans (hb.mono B8.out.size)
  clear hb
  go_wp2
  go_ret
  exact ⟨rfl, B9.out⟩
theorem law_hsame (c : Bool) (m : Nat) (hm : m < 18446744073709551616) (e : Int) (r : Bool) (y : Nat) (hy : y < 18446744073709551616) (s : Int) (w : World) (hE : ErrT w) (hT : Tab w) :
    Calls Tryd.prog 4 #[.agg #[.bool c, .int .u64 (m : Int), .int .i64 e, .bool r], .int .u64 (y : Int), .int .i64 s] w fun x w' => x = .returned (.bool true) ∧ Below w.heap.size w w' := by
  by_cases hs : Sn s
  · exact hsame_no (by simpa using hs.1) (by simpa using hs.2) hm hy rfl rfl rfl (fun W _ => hround_no hs false false _ _ W) (fun W _ => hround_no hs false false _ _ W) (fun W _ => hround_no hs false false _ _ W) (fun W _ => hround_no hs true false _ _ W) (fun W hW => num_errno 5 W hW) w hE hT
  · have key : ∀ (g n f T : Nat) (L : Int), Fz s g n f T L → ∃ (p q : Nat) (ov oq : Bool), p < g ∧ p ≤ q ∧
        (∀ W, Tab W → Calls Tryd.prog 9 #[.bool false, .int .u64 ((m / 4 : Nat) : Int), .int .i64 (clK 1099511627776 e), .bool false, .int .i64 s] W fun x w' => x = .returned (anV g false (p, ov)) ∧ Below W.heap.size W w') ∧
        (∀ W, Tab W → Calls Tryd.prog 9 #[.bool false, .int .u64 ((2 * (m / 4) : Nat) : Int), .int .i64 (clK 1099511627776 e - 1), .bool false, .int .i64 s] W fun x w' => x = .returned (anV g false (p, ov)) ∧ Below W.heap.size W w') ∧
        (∀ W, Tab W → Calls Tryd.prog 9 #[.bool false, .int .u64 ((m / 4 + y / 4 : Nat) : Int), .int .i64 (clK 1099511627776 e), .bool false, .int .i64 s] W fun x w' => x = .returned (anV g false (q, oq)) ∧ Below W.heap.size W w') ∧
        (∀ W, Tab W → Calls Tryd.prog 9 #[.bool true, .int .u64 ((m / 4 : Nat) : Int), .int .i64 (clK 1099511627776 e), .bool false, .int .i64 s] W fun x w' => x = .returned (anV g true (p, ov)) ∧ Below W.heap.size W w') := by
      intro g n f T L hz
      obtain ⟨f1, f2, t1, b1, l1, l2, tg, _⟩ := fz_facts hz
      have R1 := fun W hW => hround_ok hz false (m := m / 4) (by omega) (clK 1099511627776 e) false W hW
      have R2 := fun W hW => hround_ok hz false (m := 2 * (m / 4)) (by omega) (clK 1099511627776 e - 1) false W hW
      have R3 := fun W hW => hround_ok hz false (m := m / 4 + y / 4) (by omega) (clK 1099511627776 e) false W hW
      have R4 := fun W hW => hround_ok hz true (m := m / 4) (by omega) (clK 1099511627776 e) false W hW
      simp only [hxA_false] at R1 R2 R3 R4
      rw [rdA_two f1] at R2
      have en := (rdA_end (f := f) (T := T) (L := L) (n := m / 4) (d := 1) (e := clK 1099511627776 e) (more := false) (by omega)).1
      have mo := rdA_mono (T := T) (L := L) (d := 1) (e := clK 1099511627776 e) (more := false) f1 (by decide) (show m / 4 ≤ m / 4 + y / 4 by omega)
      generalize rdA f T L (m / 4) 1 (clK 1099511627776 e) false = A1 at *
      generalize rdA f T L (m / 4 + y / 4) 1 (clK 1099511627776 e) false = A2 at *
      exact ⟨A1.1, A2.1, A1.2, A2.2, by omega, mo, R1, R2, R3, R4⟩
    by_cases h1 : s = 32
    · subst h1
      obtain ⟨p, q, ov, oq, k1, k2, R1, R2, R3, R4⟩ := key _ _ _ _ _ (.inl ⟨rfl, rfl, rfl, rfl, rfl, rfl⟩)
      cases ov
      · exact hsame_32 k1 k2 hm hy rfl rfl rfl R1 R2 R3 R4 (fun W _ => num_nil W) w hE hT
      · exact hsame_32 k1 k2 hm hy rfl rfl rfl R1 R2 R3 R4 (fun W hW => num_errno 4 W hW) w hE hT
    · by_cases h2 : s = 64
      · subst h2
        obtain ⟨p, q, ov, oq, k1, k2, R1, R2, R3, R4⟩ := key _ _ _ _ _ (.inr ⟨rfl, rfl, rfl, rfl, rfl, rfl⟩)
        cases ov
        · exact hsame_64 k1 k2 hm hy rfl rfl rfl R1 R2 R3 R4 (fun W _ => num_nil W) w hE hT
        · exact hsame_64 k1 k2 hm hy rfl rfl rfl R1 R2 R3 R4 (fun W hW => num_errno 4 W hW) w hE hT
      · exact absurd ⟨h1, h2⟩ hs
end Go.Proofs.YtkmnkogbafhfdaaDoor
