/-
  bits' pack and Pack: the float that has these parts, or the errors.
-/
import Derived.Test.YtealnajogkeckaaDoorBtI
namespace Go.Proofs.YtealnajogkeckaaDoor
open Go.RowKit

theorem out_lt {f : Nat} {t L : Int} {M b : Nat} {E : Int} {T : Nat} (ht : t = (T : Int)) (hT : 0 < T) (h : out f t L M E = some b) : b < T * 2 ^ f := by
  unfold out at h
  have p := Nat.two_pow_pos f
  split at h
  · cases h
  · rename_i c
    split at h
    · cases h
      have : 1 * 2 ^ f ≤ T * 2 ^ f := Nat.mul_le_mul_right _ hT
      omega
    · rename_i k
      cases h
      have c1 : M < 2 ^ (f + 1) := by
        have : ¬ 2 ^ (f + 1) ≤ M := fun x => c (.inl x)
        omega
      rw [Nat.pow_succ] at c1
      have c2 : ¬ t ≤ E - L + 1 := fun x => c (.inr (.inr ⟨by omega, x⟩))
      have : ((E - L + 1).toNat + 1) * 2 ^ f ≤ T * 2 ^ f := Nat.mul_le_mul_right _ (by omega)
      rw [Nat.succ_mul] at this
      omega
theorem pk_lt {f : Nat} {t L : Int} {m b : Nat} {e : Int} {T : Nat} (ht : t = (T : Int)) (hT : 0 < T) (h : pk f t L m e = some b) : b < T * 2 ^ f := out_lt ht hT h

set_option maxRecDepth 100000 in
set_option maxHeartbeats 1000000 in
theorem pack_zero_32 (c : Bool) (m p : Int) (w : World) : Calls Tryd.prog 84 #[.agg #[.int .u64 2147483648, .int .u64 2139095040, .int .i64 23, .int .i64 (-149)], .agg #[.bool c, .int .i64 1, .int .u64 m, .int .i64 p]] w fun e w' => e = .returned (.tuple #[.int .u64 ((sgd 2147483648 c 0 : Nat) : Int), .nilIface]) ∧ Below w.heap.size w w' := by
  have HS := fun W => signed_32 (x := 0) (by decide) c W
  rw [show ((0 : Nat) : Int) = 0 from rfl] at HS
  generalize sgd 2147483648 c 0 = r at *
  have H1 : Hid (FlB ((w.alloc (.cells #[.int .u64 2147483648, .int .u64 2139095040, .int .i64 23, .int .i64 (-149)] 123)).alloc (.cells #[.bool c, .int .i64 1, .int .u64 m, .int .i64 p] 80)) w.heap.size _ _ _ _) := (FlB.new w _ _ _ _ _).al _
  have H2 : Hid (FlB ((w.alloc (.cells #[.int .u64 2147483648, .int .u64 2139095040, .int .i64 23, .int .i64 (-149)] 123)).alloc (.cells #[.bool c, .int .i64 1, .int .u64 m, .int .i64 p] 80)) (w.heap.size + 1) _ _ _ _) := FlB.newAt _ _ _ _ _ _ (by simp)
  have B0 : Hid (Below w.heap.size w ((w.alloc (.cells #[.int .u64 2147483648, .int .u64 2139095040, .int .i64 23, .int .i64 (-149)] 123)).alloc (.cells #[.bool c, .int .i64 1, .int .u64 m, .int .i64 p] 80))) := ((Below.refl _ _).alloc (Nat.le_refl _) _).alloc (by simp) _
  have l0 : w.heap.size ≤ ((w.alloc (.cells #[.int .u64 2147483648, .int .u64 2139095040, .int .i64 23, .int .i64 (-149)] 123)).alloc (.cells #[.bool c, .int .i64 1, .int .u64 m, .int .i64 p] 80)).heap.size := by simp; omega
  go_enter Tryd.func84, Tryd.ntmps84
  go_wp2_with fail
  refine (HS _).mono ?_
  rintro e w1 ⟨rfl, hb⟩
  have B1 : Hid (Below w.heap.size w w1) := B0.out.trans (hb.mono l0)
  have l1 : w.heap.size ≤ w1.heap.size := Nat.le_trans l0 hb.size
  have H1n : Hid (FlB w1 _ _ _ _ _) := H1.out.step hb
  have H2n : Hid (FlB w1 _ _ _ _ _) := H2.out.step hb
  clear H1 H2 hb
  have H1 := H1n
  have H2 := H2n
  clear H1n H2n
  go_wp2
  go_ret2
  exact ⟨rfl, B1.out⟩
set_option maxRecDepth 100000 in
set_option maxHeartbeats 1000000 in
theorem pack_inf_32 (c : Bool) (m p : Int) (w : World) : Calls Tryd.prog 84 #[.agg #[.int .u64 2147483648, .int .u64 2139095040, .int .i64 23, .int .i64 (-149)], .agg #[.bool c, .int .i64 3, .int .u64 m, .int .i64 p]] w fun e w' => e = .returned (.tuple #[.int .u64 ((sgd 2147483648 c 2139095040 : Nat) : Int), .nilIface]) ∧ Below w.heap.size w w' := by
  have HS := fun W => signed_32 (x := 2139095040) (by decide) c W
  rw [show ((2139095040 : Nat) : Int) = 2139095040 from rfl] at HS
  generalize sgd 2147483648 c 2139095040 = r at *
  have H1 : Hid (FlB ((w.alloc (.cells #[.int .u64 2147483648, .int .u64 2139095040, .int .i64 23, .int .i64 (-149)] 123)).alloc (.cells #[.bool c, .int .i64 3, .int .u64 m, .int .i64 p] 80)) w.heap.size _ _ _ _) := (FlB.new w _ _ _ _ _).al _
  have H2 : Hid (FlB ((w.alloc (.cells #[.int .u64 2147483648, .int .u64 2139095040, .int .i64 23, .int .i64 (-149)] 123)).alloc (.cells #[.bool c, .int .i64 3, .int .u64 m, .int .i64 p] 80)) (w.heap.size + 1) _ _ _ _) := FlB.newAt _ _ _ _ _ _ (by simp)
  have B0 : Hid (Below w.heap.size w ((w.alloc (.cells #[.int .u64 2147483648, .int .u64 2139095040, .int .i64 23, .int .i64 (-149)] 123)).alloc (.cells #[.bool c, .int .i64 3, .int .u64 m, .int .i64 p] 80))) := ((Below.refl _ _).alloc (Nat.le_refl _) _).alloc (by simp) _
  have l0 : w.heap.size ≤ ((w.alloc (.cells #[.int .u64 2147483648, .int .u64 2139095040, .int .i64 23, .int .i64 (-149)] 123)).alloc (.cells #[.bool c, .int .i64 3, .int .u64 m, .int .i64 p] 80)).heap.size := by simp; omega
  go_enter Tryd.func84, Tryd.ntmps84
  go_wp2_with fail
  refine (HS _).mono ?_
  rintro e w1 ⟨rfl, hb⟩
  have B1 : Hid (Below w.heap.size w w1) := B0.out.trans (hb.mono l0)
  have l1 : w.heap.size ≤ w1.heap.size := Nat.le_trans l0 hb.size
  have H1n : Hid (FlB w1 _ _ _ _ _) := H1.out.step hb
  have H2n : Hid (FlB w1 _ _ _ _ _) := H2.out.step hb
  clear H1 H2 hb
  have H1 := H1n
  have H2 := H2n
  clear H1n H2n
  go_wp2
  go_ret2
  exact ⟨rfl, B1.out⟩
set_option maxRecDepth 100000 in
set_option maxHeartbeats 1000000 in
theorem pack_nan_32 (c : Bool) (m p : Int) (w : World) : Calls Tryd.prog 84 #[.agg #[.int .u64 2147483648, .int .u64 2139095040, .int .i64 23, .int .i64 (-149)], .agg #[.bool c, .int .i64 4, .int .u64 m, .int .i64 p]] w fun e w' => e = .returned (.tuple #[.int .u64 2143289344, .nilIface]) ∧ Below w.heap.size w w' := by
  have HS := fun W => nan_32 W
  have H1 : Hid (FlB ((w.alloc (.cells #[.int .u64 2147483648, .int .u64 2139095040, .int .i64 23, .int .i64 (-149)] 123)).alloc (.cells #[.bool c, .int .i64 4, .int .u64 m, .int .i64 p] 80)) w.heap.size _ _ _ _) := (FlB.new w _ _ _ _ _).al _
  have H2 : Hid (FlB ((w.alloc (.cells #[.int .u64 2147483648, .int .u64 2139095040, .int .i64 23, .int .i64 (-149)] 123)).alloc (.cells #[.bool c, .int .i64 4, .int .u64 m, .int .i64 p] 80)) (w.heap.size + 1) _ _ _ _) := FlB.newAt _ _ _ _ _ _ (by simp)
  have B0 : Hid (Below w.heap.size w ((w.alloc (.cells #[.int .u64 2147483648, .int .u64 2139095040, .int .i64 23, .int .i64 (-149)] 123)).alloc (.cells #[.bool c, .int .i64 4, .int .u64 m, .int .i64 p] 80))) := ((Below.refl _ _).alloc (Nat.le_refl _) _).alloc (by simp) _
  have l0 : w.heap.size ≤ ((w.alloc (.cells #[.int .u64 2147483648, .int .u64 2139095040, .int .i64 23, .int .i64 (-149)] 123)).alloc (.cells #[.bool c, .int .i64 4, .int .u64 m, .int .i64 p] 80)).heap.size := by simp; omega
  go_enter Tryd.func84, Tryd.ntmps84
  go_wp2_with fail
  refine (HS _).mono ?_
  rintro e w1 ⟨rfl, hb⟩
  have B1 : Hid (Below w.heap.size w w1) := B0.out.trans (hb.mono l0)
  have l1 : w.heap.size ≤ w1.heap.size := Nat.le_trans l0 hb.size
  have H1n : Hid (FlB w1 _ _ _ _ _) := H1.out.step hb
  have H2n : Hid (FlB w1 _ _ _ _ _) := H2.out.step hb
  clear H1 H2 hb
  have H1 := H1n
  have H2 := H2n
  clear H1n H2n
  go_wp2
  go_ret2
  exact ⟨rfl, B1.out⟩
set_option maxRecDepth 100000 in
set_option maxHeartbeats 1000000 in
theorem pack_arg_32 (c : Bool) (m p : Int) {k : Int} (q1 : (k == 1) = false) (q3 : (k == 3) = false) (q4 : (k == 4) = false) (q2 : (k == 2) = false) (w : World) : Calls Tryd.prog 84 #[.agg #[.int .u64 2147483648, .int .u64 2139095040, .int .i64 23, .int .i64 (-149)], .agg #[.bool c, .int .i64 k, .int .u64 m, .int .i64 p]] w fun e w' => e = .returned (.tuple #[.int .u64 0, .iface 76 (.int .i64 1)]) ∧ Below w.heap.size w w' := by
  have H1 : Hid (FlB ((w.alloc (.cells #[.int .u64 2147483648, .int .u64 2139095040, .int .i64 23, .int .i64 (-149)] 123)).alloc (.cells #[.bool c, .int .i64 k, .int .u64 m, .int .i64 p] 80)) w.heap.size _ _ _ _) := (FlB.new w _ _ _ _ _).al _
  have H2 : Hid (FlB ((w.alloc (.cells #[.int .u64 2147483648, .int .u64 2139095040, .int .i64 23, .int .i64 (-149)] 123)).alloc (.cells #[.bool c, .int .i64 k, .int .u64 m, .int .i64 p] 80)) (w.heap.size + 1) _ _ _ _) := FlB.newAt _ _ _ _ _ _ (by simp)
  have B0 : Hid (Below w.heap.size w ((w.alloc (.cells #[.int .u64 2147483648, .int .u64 2139095040, .int .i64 23, .int .i64 (-149)] 123)).alloc (.cells #[.bool c, .int .i64 k, .int .u64 m, .int .i64 p] 80))) := ((Below.refl _ _).alloc (Nat.le_refl _) _).alloc (by simp) _
  have l0 : w.heap.size ≤ ((w.alloc (.cells #[.int .u64 2147483648, .int .u64 2139095040, .int .i64 23, .int .i64 (-149)] 123)).alloc (.cells #[.bool c, .int .i64 k, .int .u64 m, .int .i64 p] 80)).heap.size := by simp; omega
  go_enter Tryd.func84, Tryd.ntmps84
  go_wp2
  go_ret2
  exact ⟨rfl, B0.out⟩
set_option maxRecDepth 100000 in
set_option maxHeartbeats 1000000 in
theorem pack_none0_32 (c : Bool) (p : Int) (w : World) : Calls Tryd.prog 84 #[.agg #[.int .u64 2147483648, .int .u64 2139095040, .int .i64 23, .int .i64 (-149)], .agg #[.bool c, .int .i64 2, .int .u64 0, .int .i64 p]] w fun e w' => e = .returned (.tuple #[.int .u64 0, .iface 76 (.int .i64 1)]) ∧ Below w.heap.size w w' := by
  have HX0 := fun W => exact_zero_32 p W
  have H1 : Hid (FlB ((w.alloc (.cells #[.int .u64 2147483648, .int .u64 2139095040, .int .i64 23, .int .i64 (-149)] 123)).alloc (.cells #[.bool c, .int .i64 2, .int .u64 0, .int .i64 p] 80)) w.heap.size _ _ _ _) := (FlB.new w _ _ _ _ _).al _
  have H2 : Hid (FlB ((w.alloc (.cells #[.int .u64 2147483648, .int .u64 2139095040, .int .i64 23, .int .i64 (-149)] 123)).alloc (.cells #[.bool c, .int .i64 2, .int .u64 0, .int .i64 p] 80)) (w.heap.size + 1) _ _ _ _) := FlB.newAt _ _ _ _ _ _ (by simp)
  have B0 : Hid (Below w.heap.size w ((w.alloc (.cells #[.int .u64 2147483648, .int .u64 2139095040, .int .i64 23, .int .i64 (-149)] 123)).alloc (.cells #[.bool c, .int .i64 2, .int .u64 0, .int .i64 p] 80))) := ((Below.refl _ _).alloc (Nat.le_refl _) _).alloc (by simp) _
  have l0 : w.heap.size ≤ ((w.alloc (.cells #[.int .u64 2147483648, .int .u64 2139095040, .int .i64 23, .int .i64 (-149)] 123)).alloc (.cells #[.bool c, .int .i64 2, .int .u64 0, .int .i64 p] 80)).heap.size := by simp; omega
  go_enter Tryd.func84, Tryd.ntmps84
  go_wp2_with fail
  refine (HX0 _).mono ?_
  rintro e w1 ⟨rfl, hb⟩
  have B1 : Hid (Below w.heap.size w w1) := B0.out.trans (hb.mono l0)
  have l1 : w.heap.size ≤ w1.heap.size := Nat.le_trans l0 hb.size
  have H1n : Hid (FlB w1 _ _ _ _ _) := H1.out.step hb
  have H2n : Hid (FlB w1 _ _ _ _ _) := H2.out.step hb
  clear H1 H2 hb
  have H1 := H1n
  have H2 := H2n
  clear H1n H2n
  go_wp2
  go_ret2
  exact ⟨rfl, B1.out⟩
set_option maxRecDepth 100000 in
set_option maxHeartbeats 1000000 in
theorem pack_none_32 (c : Bool) {m : Nat} {p : Int} (hm : m < 18446744073709551616) (m0 : m ≠ 0) (hp0 : -9223372036854775808 ≤ p) (h : pk 23 255 (-149) m p = none) (w : World) (hT : Tab w) : Calls Tryd.prog 84 #[.agg #[.int .u64 2147483648, .int .u64 2139095040, .int .i64 23, .int .i64 (-149)], .agg #[.bool c, .int .i64 2, .int .u64 (m : Int), .int .i64 p]] w fun e w' => e = .returned (.tuple #[.int .u64 0, .iface 76 (.int .i64 4)]) ∧ Below w.heap.size w w' := by
  have HX := fun W (g : Tab W) => exactly_32 hm m0 hp0 W g
  rw [h] at HX
  unfold exV at HX
  have HT : Hid (Tab w) := hT
  clear hT h hm m0 hp0
  have H1 : Hid (FlB ((w.alloc (.cells #[.int .u64 2147483648, .int .u64 2139095040, .int .i64 23, .int .i64 (-149)] 123)).alloc (.cells #[.bool c, .int .i64 2, .int .u64 (m : Int), .int .i64 p] 80)) w.heap.size _ _ _ _) := (FlB.new w _ _ _ _ _).al _
  have H2 : Hid (FlB ((w.alloc (.cells #[.int .u64 2147483648, .int .u64 2139095040, .int .i64 23, .int .i64 (-149)] 123)).alloc (.cells #[.bool c, .int .i64 2, .int .u64 (m : Int), .int .i64 p] 80)) (w.heap.size + 1) _ _ _ _) := FlB.newAt _ _ _ _ _ _ (by simp)
  have B0 : Hid (Below w.heap.size w ((w.alloc (.cells #[.int .u64 2147483648, .int .u64 2139095040, .int .i64 23, .int .i64 (-149)] 123)).alloc (.cells #[.bool c, .int .i64 2, .int .u64 (m : Int), .int .i64 p] 80))) := ((Below.refl _ _).alloc (Nat.le_refl _) _).alloc (by simp) _
  have l0 : w.heap.size ≤ ((w.alloc (.cells #[.int .u64 2147483648, .int .u64 2139095040, .int .i64 23, .int .i64 (-149)] 123)).alloc (.cells #[.bool c, .int .i64 2, .int .u64 (m : Int), .int .i64 p] 80)).heap.size := by simp; omega
  go_enter Tryd.func84, Tryd.ntmps84
  go_wp2_with fail
  refine (HX _ (HT.out.below B0.out HT.out.pos)).mono ?_
  rintro e w1 ⟨rfl, hb⟩
  have B1 : Hid (Below w.heap.size w w1) := B0.out.trans (hb.mono l0)
  have l1 : w.heap.size ≤ w1.heap.size := Nat.le_trans l0 hb.size
  have H1n : Hid (FlB w1 _ _ _ _ _) := H1.out.step hb
  have H2n : Hid (FlB w1 _ _ _ _ _) := H2.out.step hb
  clear H1 H2 hb
  have H1 := H1n
  have H2 := H2n
  clear H1n H2n
  go_wp2
  go_ret2
  exact ⟨rfl, B1.out⟩
set_option maxRecDepth 100000 in
set_option maxHeartbeats 1000000 in
theorem pack_some_32 (c : Bool) {m b : Nat} {p : Int} (hm : m < 18446744073709551616) (m0 : m ≠ 0) (hp0 : -9223372036854775808 ≤ p) (h : pk 23 255 (-149) m p = some b) (w : World) (hT : Tab w) : Calls Tryd.prog 84 #[.agg #[.int .u64 2147483648, .int .u64 2139095040, .int .i64 23, .int .i64 (-149)], .agg #[.bool c, .int .i64 2, .int .u64 (m : Int), .int .i64 p]] w fun e w' => e = .returned (.tuple #[.int .u64 ((sgd 2147483648 c b : Nat) : Int), .nilIface]) ∧ Below w.heap.size w w' := by
  have HX := fun W (g : Tab W) => exactly_32 hm m0 hp0 W g
  rw [h] at HX
  unfold exV at HX
  have hl := pk_lt (T := 255) rfl (by decide) h
  have HS := fun W => signed_32 (x := b) (by omega) c W
  generalize sgd 2147483648 c b = r at *
  have HT : Hid (Tab w) := hT
  clear hT h hl hm m0 hp0
  have H1 : Hid (FlB ((w.alloc (.cells #[.int .u64 2147483648, .int .u64 2139095040, .int .i64 23, .int .i64 (-149)] 123)).alloc (.cells #[.bool c, .int .i64 2, .int .u64 (m : Int), .int .i64 p] 80)) w.heap.size _ _ _ _) := (FlB.new w _ _ _ _ _).al _
  have H2 : Hid (FlB ((w.alloc (.cells #[.int .u64 2147483648, .int .u64 2139095040, .int .i64 23, .int .i64 (-149)] 123)).alloc (.cells #[.bool c, .int .i64 2, .int .u64 (m : Int), .int .i64 p] 80)) (w.heap.size + 1) _ _ _ _) := FlB.newAt _ _ _ _ _ _ (by simp)
  have B0 : Hid (Below w.heap.size w ((w.alloc (.cells #[.int .u64 2147483648, .int .u64 2139095040, .int .i64 23, .int .i64 (-149)] 123)).alloc (.cells #[.bool c, .int .i64 2, .int .u64 (m : Int), .int .i64 p] 80))) := ((Below.refl _ _).alloc (Nat.le_refl _) _).alloc (by simp) _
  have l0 : w.heap.size ≤ ((w.alloc (.cells #[.int .u64 2147483648, .int .u64 2139095040, .int .i64 23, .int .i64 (-149)] 123)).alloc (.cells #[.bool c, .int .i64 2, .int .u64 (m : Int), .int .i64 p] 80)).heap.size := by simp; omega
  go_enter Tryd.func84, Tryd.ntmps84
  go_wp2_with fail
  refine (HX _ (HT.out.below B0.out HT.out.pos)).mono ?_
  rintro e w1 ⟨rfl, hb⟩
  have B1 : Hid (Below w.heap.size w w1) := B0.out.trans (hb.mono l0)
  have l1 : w.heap.size ≤ w1.heap.size := Nat.le_trans l0 hb.size
  have H1n : Hid (FlB w1 _ _ _ _ _) := H1.out.step hb
  have H2n : Hid (FlB w1 _ _ _ _ _) := H2.out.step hb
  clear H1 H2 hb
  have H1 := H1n
  have H2 := H2n
  clear H1n H2n
  obtain ⟨m1, a0, a1, a2, a3, _, _, _, _⟩ := H1.out
  obtain ⟨m2, b0, b1, b2, b3, _, _, _, _⟩ := H2.out
  go_wp2_with fail
  refine (HS _).mono ?_
  rintro e w2 ⟨rfl, hb⟩
  have B2 : Hid (Below w.heap.size w w2) := B1.out.trans (hb.mono l1)
  have l2 : w.heap.size ≤ w2.heap.size := Nat.le_trans l1 hb.size
  have H1n : Hid (FlB w2 _ _ _ _ _) := H1.out.step hb
  have H2n : Hid (FlB w2 _ _ _ _ _) := H2.out.step hb
  clear H1 H2 hb
  have H1 := H1n
  have H2 := H2n
  clear H1n H2n
  go_wp2
  go_ret2
  exact ⟨rfl, B2.out⟩
set_option maxRecDepth 100000 in
set_option maxHeartbeats 1000000 in
theorem pack_zero_64 (c : Bool) (m p : Int) (w : World) : Calls Tryd.prog 84 #[.agg #[.int .u64 9223372036854775808, .int .u64 9218868437227405312, .int .i64 52, .int .i64 (-1074)], .agg #[.bool c, .int .i64 1, .int .u64 m, .int .i64 p]] w fun e w' => e = .returned (.tuple #[.int .u64 ((sgd 9223372036854775808 c 0 : Nat) : Int), .nilIface]) ∧ Below w.heap.size w w' := by
  have HS := fun W => signed_64 (x := 0) (by decide) c W
  rw [show ((0 : Nat) : Int) = 0 from rfl] at HS
  generalize sgd 9223372036854775808 c 0 = r at *
  have H1 : Hid (FlB ((w.alloc (.cells #[.int .u64 9223372036854775808, .int .u64 9218868437227405312, .int .i64 52, .int .i64 (-1074)] 123)).alloc (.cells #[.bool c, .int .i64 1, .int .u64 m, .int .i64 p] 80)) w.heap.size _ _ _ _) := (FlB.new w _ _ _ _ _).al _
  have H2 : Hid (FlB ((w.alloc (.cells #[.int .u64 9223372036854775808, .int .u64 9218868437227405312, .int .i64 52, .int .i64 (-1074)] 123)).alloc (.cells #[.bool c, .int .i64 1, .int .u64 m, .int .i64 p] 80)) (w.heap.size + 1) _ _ _ _) := FlB.newAt _ _ _ _ _ _ (by simp)
  have B0 : Hid (Below w.heap.size w ((w.alloc (.cells #[.int .u64 9223372036854775808, .int .u64 9218868437227405312, .int .i64 52, .int .i64 (-1074)] 123)).alloc (.cells #[.bool c, .int .i64 1, .int .u64 m, .int .i64 p] 80))) := ((Below.refl _ _).alloc (Nat.le_refl _) _).alloc (by simp) _
  have l0 : w.heap.size ≤ ((w.alloc (.cells #[.int .u64 9223372036854775808, .int .u64 9218868437227405312, .int .i64 52, .int .i64 (-1074)] 123)).alloc (.cells #[.bool c, .int .i64 1, .int .u64 m, .int .i64 p] 80)).heap.size := by simp; omega
  go_enter Tryd.func84, Tryd.ntmps84
  go_wp2_with fail
  refine (HS _).mono ?_
  rintro e w1 ⟨rfl, hb⟩
  have B1 : Hid (Below w.heap.size w w1) := B0.out.trans (hb.mono l0)
  have l1 : w.heap.size ≤ w1.heap.size := Nat.le_trans l0 hb.size
  have H1n : Hid (FlB w1 _ _ _ _ _) := H1.out.step hb
  have H2n : Hid (FlB w1 _ _ _ _ _) := H2.out.step hb
  clear H1 H2 hb
  have H1 := H1n
  have H2 := H2n
  clear H1n H2n
  go_wp2
  go_ret2
  exact ⟨rfl, B1.out⟩
set_option maxRecDepth 100000 in
set_option maxHeartbeats 1000000 in
theorem pack_inf_64 (c : Bool) (m p : Int) (w : World) : Calls Tryd.prog 84 #[.agg #[.int .u64 9223372036854775808, .int .u64 9218868437227405312, .int .i64 52, .int .i64 (-1074)], .agg #[.bool c, .int .i64 3, .int .u64 m, .int .i64 p]] w fun e w' => e = .returned (.tuple #[.int .u64 ((sgd 9223372036854775808 c 9218868437227405312 : Nat) : Int), .nilIface]) ∧ Below w.heap.size w w' := by
  have HS := fun W => signed_64 (x := 9218868437227405312) (by decide) c W
  rw [show ((9218868437227405312 : Nat) : Int) = 9218868437227405312 from rfl] at HS
  generalize sgd 9223372036854775808 c 9218868437227405312 = r at *
  have H1 : Hid (FlB ((w.alloc (.cells #[.int .u64 9223372036854775808, .int .u64 9218868437227405312, .int .i64 52, .int .i64 (-1074)] 123)).alloc (.cells #[.bool c, .int .i64 3, .int .u64 m, .int .i64 p] 80)) w.heap.size _ _ _ _) := (FlB.new w _ _ _ _ _).al _
  have H2 : Hid (FlB ((w.alloc (.cells #[.int .u64 9223372036854775808, .int .u64 9218868437227405312, .int .i64 52, .int .i64 (-1074)] 123)).alloc (.cells #[.bool c, .int .i64 3, .int .u64 m, .int .i64 p] 80)) (w.heap.size + 1) _ _ _ _) := FlB.newAt _ _ _ _ _ _ (by simp)
  have B0 : Hid (Below w.heap.size w ((w.alloc (.cells #[.int .u64 9223372036854775808, .int .u64 9218868437227405312, .int .i64 52, .int .i64 (-1074)] 123)).alloc (.cells #[.bool c, .int .i64 3, .int .u64 m, .int .i64 p] 80))) := ((Below.refl _ _).alloc (Nat.le_refl _) _).alloc (by simp) _
  have l0 : w.heap.size ≤ ((w.alloc (.cells #[.int .u64 9223372036854775808, .int .u64 9218868437227405312, .int .i64 52, .int .i64 (-1074)] 123)).alloc (.cells #[.bool c, .int .i64 3, .int .u64 m, .int .i64 p] 80)).heap.size := by simp; omega
  go_enter Tryd.func84, Tryd.ntmps84
  go_wp2_with fail
  refine (HS _).mono ?_
  rintro e w1 ⟨rfl, hb⟩
  have B1 : Hid (Below w.heap.size w w1) := B0.out.trans (hb.mono l0)
  have l1 : w.heap.size ≤ w1.heap.size := Nat.le_trans l0 hb.size
  have H1n : Hid (FlB w1 _ _ _ _ _) := H1.out.step hb
  have H2n : Hid (FlB w1 _ _ _ _ _) := H2.out.step hb
  clear H1 H2 hb
  have H1 := H1n
  have H2 := H2n
  clear H1n H2n
  go_wp2
  go_ret2
  exact ⟨rfl, B1.out⟩
set_option maxRecDepth 100000 in
set_option maxHeartbeats 1000000 in
theorem pack_nan_64 (c : Bool) (m p : Int) (w : World) : Calls Tryd.prog 84 #[.agg #[.int .u64 9223372036854775808, .int .u64 9218868437227405312, .int .i64 52, .int .i64 (-1074)], .agg #[.bool c, .int .i64 4, .int .u64 m, .int .i64 p]] w fun e w' => e = .returned (.tuple #[.int .u64 9221120237041090560, .nilIface]) ∧ Below w.heap.size w w' := by
  have HS := fun W => nan_64 W
  have H1 : Hid (FlB ((w.alloc (.cells #[.int .u64 9223372036854775808, .int .u64 9218868437227405312, .int .i64 52, .int .i64 (-1074)] 123)).alloc (.cells #[.bool c, .int .i64 4, .int .u64 m, .int .i64 p] 80)) w.heap.size _ _ _ _) := (FlB.new w _ _ _ _ _).al _
  have H2 : Hid (FlB ((w.alloc (.cells #[.int .u64 9223372036854775808, .int .u64 9218868437227405312, .int .i64 52, .int .i64 (-1074)] 123)).alloc (.cells #[.bool c, .int .i64 4, .int .u64 m, .int .i64 p] 80)) (w.heap.size + 1) _ _ _ _) := FlB.newAt _ _ _ _ _ _ (by simp)
  have B0 : Hid (Below w.heap.size w ((w.alloc (.cells #[.int .u64 9223372036854775808, .int .u64 9218868437227405312, .int .i64 52, .int .i64 (-1074)] 123)).alloc (.cells #[.bool c, .int .i64 4, .int .u64 m, .int .i64 p] 80))) := ((Below.refl _ _).alloc (Nat.le_refl _) _).alloc (by simp) _
  have l0 : w.heap.size ≤ ((w.alloc (.cells #[.int .u64 9223372036854775808, .int .u64 9218868437227405312, .int .i64 52, .int .i64 (-1074)] 123)).alloc (.cells #[.bool c, .int .i64 4, .int .u64 m, .int .i64 p] 80)).heap.size := by simp; omega
  go_enter Tryd.func84, Tryd.ntmps84
  go_wp2_with fail
  refine (HS _).mono ?_
  rintro e w1 ⟨rfl, hb⟩
  have B1 : Hid (Below w.heap.size w w1) := B0.out.trans (hb.mono l0)
  have l1 : w.heap.size ≤ w1.heap.size := Nat.le_trans l0 hb.size
  have H1n : Hid (FlB w1 _ _ _ _ _) := H1.out.step hb
  have H2n : Hid (FlB w1 _ _ _ _ _) := H2.out.step hb
  clear H1 H2 hb
  have H1 := H1n
  have H2 := H2n
  clear H1n H2n
  go_wp2
  go_ret2
  exact ⟨rfl, B1.out⟩
set_option maxRecDepth 100000 in
set_option maxHeartbeats 1000000 in
theorem pack_arg_64 (c : Bool) (m p : Int) {k : Int} (q1 : (k == 1) = false) (q3 : (k == 3) = false) (q4 : (k == 4) = false) (q2 : (k == 2) = false) (w : World) : Calls Tryd.prog 84 #[.agg #[.int .u64 9223372036854775808, .int .u64 9218868437227405312, .int .i64 52, .int .i64 (-1074)], .agg #[.bool c, .int .i64 k, .int .u64 m, .int .i64 p]] w fun e w' => e = .returned (.tuple #[.int .u64 0, .iface 76 (.int .i64 1)]) ∧ Below w.heap.size w w' := by
  have H1 : Hid (FlB ((w.alloc (.cells #[.int .u64 9223372036854775808, .int .u64 9218868437227405312, .int .i64 52, .int .i64 (-1074)] 123)).alloc (.cells #[.bool c, .int .i64 k, .int .u64 m, .int .i64 p] 80)) w.heap.size _ _ _ _) := (FlB.new w _ _ _ _ _).al _
  have H2 : Hid (FlB ((w.alloc (.cells #[.int .u64 9223372036854775808, .int .u64 9218868437227405312, .int .i64 52, .int .i64 (-1074)] 123)).alloc (.cells #[.bool c, .int .i64 k, .int .u64 m, .int .i64 p] 80)) (w.heap.size + 1) _ _ _ _) := FlB.newAt _ _ _ _ _ _ (by simp)
  have B0 : Hid (Below w.heap.size w ((w.alloc (.cells #[.int .u64 9223372036854775808, .int .u64 9218868437227405312, .int .i64 52, .int .i64 (-1074)] 123)).alloc (.cells #[.bool c, .int .i64 k, .int .u64 m, .int .i64 p] 80))) := ((Below.refl _ _).alloc (Nat.le_refl _) _).alloc (by simp) _
  have l0 : w.heap.size ≤ ((w.alloc (.cells #[.int .u64 9223372036854775808, .int .u64 9218868437227405312, .int .i64 52, .int .i64 (-1074)] 123)).alloc (.cells #[.bool c, .int .i64 k, .int .u64 m, .int .i64 p] 80)).heap.size := by simp; omega
  go_enter Tryd.func84, Tryd.ntmps84
  go_wp2
  go_ret2
  exact ⟨rfl, B0.out⟩
set_option maxRecDepth 100000 in
set_option maxHeartbeats 1000000 in
theorem pack_none0_64 (c : Bool) (p : Int) (w : World) : Calls Tryd.prog 84 #[.agg #[.int .u64 9223372036854775808, .int .u64 9218868437227405312, .int .i64 52, .int .i64 (-1074)], .agg #[.bool c, .int .i64 2, .int .u64 0, .int .i64 p]] w fun e w' => e = .returned (.tuple #[.int .u64 0, .iface 76 (.int .i64 1)]) ∧ Below w.heap.size w w' := by
  have HX0 := fun W => exact_zero_64 p W
  have H1 : Hid (FlB ((w.alloc (.cells #[.int .u64 9223372036854775808, .int .u64 9218868437227405312, .int .i64 52, .int .i64 (-1074)] 123)).alloc (.cells #[.bool c, .int .i64 2, .int .u64 0, .int .i64 p] 80)) w.heap.size _ _ _ _) := (FlB.new w _ _ _ _ _).al _
  have H2 : Hid (FlB ((w.alloc (.cells #[.int .u64 9223372036854775808, .int .u64 9218868437227405312, .int .i64 52, .int .i64 (-1074)] 123)).alloc (.cells #[.bool c, .int .i64 2, .int .u64 0, .int .i64 p] 80)) (w.heap.size + 1) _ _ _ _) := FlB.newAt _ _ _ _ _ _ (by simp)
  have B0 : Hid (Below w.heap.size w ((w.alloc (.cells #[.int .u64 9223372036854775808, .int .u64 9218868437227405312, .int .i64 52, .int .i64 (-1074)] 123)).alloc (.cells #[.bool c, .int .i64 2, .int .u64 0, .int .i64 p] 80))) := ((Below.refl _ _).alloc (Nat.le_refl _) _).alloc (by simp) _
  have l0 : w.heap.size ≤ ((w.alloc (.cells #[.int .u64 9223372036854775808, .int .u64 9218868437227405312, .int .i64 52, .int .i64 (-1074)] 123)).alloc (.cells #[.bool c, .int .i64 2, .int .u64 0, .int .i64 p] 80)).heap.size := by simp; omega
  go_enter Tryd.func84, Tryd.ntmps84
  go_wp2_with fail
  refine (HX0 _).mono ?_
  rintro e w1 ⟨rfl, hb⟩
  have B1 : Hid (Below w.heap.size w w1) := B0.out.trans (hb.mono l0)
  have l1 : w.heap.size ≤ w1.heap.size := Nat.le_trans l0 hb.size
  have H1n : Hid (FlB w1 _ _ _ _ _) := H1.out.step hb
  have H2n : Hid (FlB w1 _ _ _ _ _) := H2.out.step hb
  clear H1 H2 hb
  have H1 := H1n
  have H2 := H2n
  clear H1n H2n
  go_wp2
  go_ret2
  exact ⟨rfl, B1.out⟩
set_option maxRecDepth 100000 in
set_option maxHeartbeats 1000000 in
theorem pack_none_64 (c : Bool) {m : Nat} {p : Int} (hm : m < 18446744073709551616) (m0 : m ≠ 0) (hp0 : -9223372036854775808 ≤ p) (h : pk 52 2047 (-1074) m p = none) (w : World) (hT : Tab w) : Calls Tryd.prog 84 #[.agg #[.int .u64 9223372036854775808, .int .u64 9218868437227405312, .int .i64 52, .int .i64 (-1074)], .agg #[.bool c, .int .i64 2, .int .u64 (m : Int), .int .i64 p]] w fun e w' => e = .returned (.tuple #[.int .u64 0, .iface 76 (.int .i64 4)]) ∧ Below w.heap.size w w' := by
  have HX := fun W (g : Tab W) => exactly_64 hm m0 hp0 W g
  rw [h] at HX
  unfold exV at HX
  have HT : Hid (Tab w) := hT
  clear hT h hm m0 hp0
  have H1 : Hid (FlB ((w.alloc (.cells #[.int .u64 9223372036854775808, .int .u64 9218868437227405312, .int .i64 52, .int .i64 (-1074)] 123)).alloc (.cells #[.bool c, .int .i64 2, .int .u64 (m : Int), .int .i64 p] 80)) w.heap.size _ _ _ _) := (FlB.new w _ _ _ _ _).al _
  have H2 : Hid (FlB ((w.alloc (.cells #[.int .u64 9223372036854775808, .int .u64 9218868437227405312, .int .i64 52, .int .i64 (-1074)] 123)).alloc (.cells #[.bool c, .int .i64 2, .int .u64 (m : Int), .int .i64 p] 80)) (w.heap.size + 1) _ _ _ _) := FlB.newAt _ _ _ _ _ _ (by simp)
  have B0 : Hid (Below w.heap.size w ((w.alloc (.cells #[.int .u64 9223372036854775808, .int .u64 9218868437227405312, .int .i64 52, .int .i64 (-1074)] 123)).alloc (.cells #[.bool c, .int .i64 2, .int .u64 (m : Int), .int .i64 p] 80))) := ((Below.refl _ _).alloc (Nat.le_refl _) _).alloc (by simp) _
  have l0 : w.heap.size ≤ ((w.alloc (.cells #[.int .u64 9223372036854775808, .int .u64 9218868437227405312, .int .i64 52, .int .i64 (-1074)] 123)).alloc (.cells #[.bool c, .int .i64 2, .int .u64 (m : Int), .int .i64 p] 80)).heap.size := by simp; omega
  go_enter Tryd.func84, Tryd.ntmps84
  go_wp2_with fail
  refine (HX _ (HT.out.below B0.out HT.out.pos)).mono ?_
  rintro e w1 ⟨rfl, hb⟩
  have B1 : Hid (Below w.heap.size w w1) := B0.out.trans (hb.mono l0)
  have l1 : w.heap.size ≤ w1.heap.size := Nat.le_trans l0 hb.size
  have H1n : Hid (FlB w1 _ _ _ _ _) := H1.out.step hb
  have H2n : Hid (FlB w1 _ _ _ _ _) := H2.out.step hb
  clear H1 H2 hb
  have H1 := H1n
  have H2 := H2n
  clear H1n H2n
  go_wp2
  go_ret2
  exact ⟨rfl, B1.out⟩
set_option maxRecDepth 100000 in
set_option maxHeartbeats 1000000 in
theorem pack_some_64 (c : Bool) {m b : Nat} {p : Int} (hm : m < 18446744073709551616) (m0 : m ≠ 0) (hp0 : -9223372036854775808 ≤ p) (h : pk 52 2047 (-1074) m p = some b) (w : World) (hT : Tab w) : Calls Tryd.prog 84 #[.agg #[.int .u64 9223372036854775808, .int .u64 9218868437227405312, .int .i64 52, .int .i64 (-1074)], .agg #[.bool c, .int .i64 2, .int .u64 (m : Int), .int .i64 p]] w fun e w' => e = .returned (.tuple #[.int .u64 ((sgd 9223372036854775808 c b : Nat) : Int), .nilIface]) ∧ Below w.heap.size w w' := by
  have HX := fun W (g : Tab W) => exactly_64 hm m0 hp0 W g
  rw [h] at HX
  unfold exV at HX
  have hl := pk_lt (T := 2047) rfl (by decide) h
  have HS := fun W => signed_64 (x := b) (by omega) c W
  generalize sgd 9223372036854775808 c b = r at *
  have HT : Hid (Tab w) := hT
  clear hT h hl hm m0 hp0
  have H1 : Hid (FlB ((w.alloc (.cells #[.int .u64 9223372036854775808, .int .u64 9218868437227405312, .int .i64 52, .int .i64 (-1074)] 123)).alloc (.cells #[.bool c, .int .i64 2, .int .u64 (m : Int), .int .i64 p] 80)) w.heap.size _ _ _ _) := (FlB.new w _ _ _ _ _).al _
  have H2 : Hid (FlB ((w.alloc (.cells #[.int .u64 9223372036854775808, .int .u64 9218868437227405312, .int .i64 52, .int .i64 (-1074)] 123)).alloc (.cells #[.bool c, .int .i64 2, .int .u64 (m : Int), .int .i64 p] 80)) (w.heap.size + 1) _ _ _ _) := FlB.newAt _ _ _ _ _ _ (by simp)
  have B0 : Hid (Below w.heap.size w ((w.alloc (.cells #[.int .u64 9223372036854775808, .int .u64 9218868437227405312, .int .i64 52, .int .i64 (-1074)] 123)).alloc (.cells #[.bool c, .int .i64 2, .int .u64 (m : Int), .int .i64 p] 80))) := ((Below.refl _ _).alloc (Nat.le_refl _) _).alloc (by simp) _
  have l0 : w.heap.size ≤ ((w.alloc (.cells #[.int .u64 9223372036854775808, .int .u64 9218868437227405312, .int .i64 52, .int .i64 (-1074)] 123)).alloc (.cells #[.bool c, .int .i64 2, .int .u64 (m : Int), .int .i64 p] 80)).heap.size := by simp; omega
  go_enter Tryd.func84, Tryd.ntmps84
  go_wp2_with fail
  refine (HX _ (HT.out.below B0.out HT.out.pos)).mono ?_
  rintro e w1 ⟨rfl, hb⟩
  have B1 : Hid (Below w.heap.size w w1) := B0.out.trans (hb.mono l0)
  have l1 : w.heap.size ≤ w1.heap.size := Nat.le_trans l0 hb.size
  have H1n : Hid (FlB w1 _ _ _ _ _) := H1.out.step hb
  have H2n : Hid (FlB w1 _ _ _ _ _) := H2.out.step hb
  clear H1 H2 hb
  have H1 := H1n
  have H2 := H2n
  clear H1n H2n
  obtain ⟨m1, a0, a1, a2, a3, _, _, _, _⟩ := H1.out
  obtain ⟨m2, b0, b1, b2, b3, _, _, _, _⟩ := H2.out
  go_wp2_with fail
  refine (HS _).mono ?_
  rintro e w2 ⟨rfl, hb⟩
  have B2 : Hid (Below w.heap.size w w2) := B1.out.trans (hb.mono l1)
  have l2 : w.heap.size ≤ w2.heap.size := Nat.le_trans l1 hb.size
  have H1n : Hid (FlB w2 _ _ _ _ _) := H1.out.step hb
  have H2n : Hid (FlB w2 _ _ _ _ _) := H2.out.step hb
  clear H1 H2 hb
  have H1 := H1n
  have H2 := H2n
  clear H1n H2n
  go_wp2
  go_ret2
  exact ⟨rfl, B2.out⟩
set_option maxRecDepth 100000 in
set_option maxHeartbeats 1000000 in
theorem pk_no {s : Int} (h : Sn s) (c : Bool) (k m p : Int) (w : World) : Calls Tryd.prog 67 #[.agg #[.bool c, .int .i64 k, .int .u64 m, .int .i64 p], .int .i64 s] w fun e w' => e = .returned (.tuple #[.int .u64 0, .iface 76 (.int .i64 5)]) ∧ Below w.heap.size w w' := by
  have H := fun W => shapeOf_no h W
  clear h
  go_enter Tryd.func67, Tryd.ntmps67
  go_wp2_with fail
  refine (H _).mono ?_
  rintro e w1 ⟨rfl, hb⟩
  have B1 : Hid (Below w.heap.size w w1) := ((Below.refl _ _).alloc (Nat.le_refl _) _).trans (hb.mono (by simp))
  have l := B1.out.size
  clear hb
  go_wp2
  go_ret2
  exact ⟨rfl, B1.out.alloc l _⟩
set_option maxRecDepth 100000 in
set_option maxHeartbeats 1000000 in
theorem pk_of_32 {c : Bool} {k m p y : Int} {V : Value} (w : World) (hT : Tab w) (HP : ∀ W, Tab W → Calls Tryd.prog 84 #[.agg #[.int .u64 2147483648, .int .u64 2139095040, .int .i64 23, .int .i64 (-149)], .agg #[.bool c, .int .i64 k, .int .u64 m, .int .i64 p]] W fun e w' => e = .returned (.tuple #[.int .u64 y, V]) ∧ Below W.heap.size W w') : Calls Tryd.prog 67 #[.agg #[.bool c, .int .i64 k, .int .u64 m, .int .i64 p], .int .i64 32] w fun e w' => e = .returned (.tuple #[.int .u64 y, V]) ∧ Below w.heap.size w w' := by
  have H := fun W => shapeOf_32 W
  have HT : Hid (Tab w) := hT
  clear hT
  go_enter Tryd.func67, Tryd.ntmps67
  go_wp2_with fail
  refine (H _).mono ?_
  rintro e w1 ⟨rfl, hb⟩
  have B1 : Hid (Below w.heap.size w w1) := ((Below.refl _ _).alloc (Nat.le_refl _) _).trans (hb.mono (by simp))
  have T1 : Hid (FlB w1 w.heap.size _ _ _ _) := (FlB.new w (.bool c) (.int .i64 k) (.int .u64 m) (.int .i64 p) 80).step hb
  clear hb
  obtain ⟨l, a0, a1, a2, a3, _, _, _, _⟩ := T1.out
  go_wp2_with fail
  refine (HP _ (HT.out.below (B1.out.alloc (Nat.le_of_lt l) _) HT.out.pos)).mono ?_
  rintro e w2 ⟨rfl, hb⟩
  have B2 : Hid (Below w.heap.size w w2) := (B1.out.alloc (Nat.le_of_lt l) _).trans (hb.mono (by simp; omega))
  clear hb
  go_wp2
  go_ret2
  exact ⟨rfl, B2.out⟩
set_option maxRecDepth 100000 in
set_option maxHeartbeats 1000000 in
theorem pk_of_64 {c : Bool} {k m p y : Int} {V : Value} (w : World) (hT : Tab w) (HP : ∀ W, Tab W → Calls Tryd.prog 84 #[.agg #[.int .u64 9223372036854775808, .int .u64 9218868437227405312, .int .i64 52, .int .i64 (-1074)], .agg #[.bool c, .int .i64 k, .int .u64 m, .int .i64 p]] W fun e w' => e = .returned (.tuple #[.int .u64 y, V]) ∧ Below W.heap.size W w') : Calls Tryd.prog 67 #[.agg #[.bool c, .int .i64 k, .int .u64 m, .int .i64 p], .int .i64 64] w fun e w' => e = .returned (.tuple #[.int .u64 y, V]) ∧ Below w.heap.size w w' := by
  have H := fun W => shapeOf_64 W
  have HT : Hid (Tab w) := hT
  clear hT
  go_enter Tryd.func67, Tryd.ntmps67
  go_wp2_with fail
  refine (H _).mono ?_
  rintro e w1 ⟨rfl, hb⟩
  have B1 : Hid (Below w.heap.size w w1) := ((Below.refl _ _).alloc (Nat.le_refl _) _).trans (hb.mono (by simp))
  have T1 : Hid (FlB w1 w.heap.size _ _ _ _) := (FlB.new w (.bool c) (.int .i64 k) (.int .u64 m) (.int .i64 p) 80).step hb
  clear hb
  obtain ⟨l, a0, a1, a2, a3, _, _, _, _⟩ := T1.out
  go_wp2_with fail
  refine (HP _ (HT.out.below (B1.out.alloc (Nat.le_of_lt l) _) HT.out.pos)).mono ?_
  rintro e w2 ⟨rfl, hb⟩
  have B2 : Hid (Below w.heap.size w w2) := (B1.out.alloc (Nat.le_of_lt l) _).trans (hb.mono (by simp; omega))
  clear hb
  go_wp2
  go_ret2
  exact ⟨rfl, B2.out⟩
end Go.Proofs.YtealnajogkeckaaDoor
