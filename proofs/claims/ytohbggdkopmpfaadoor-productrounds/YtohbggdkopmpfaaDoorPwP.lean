/-
  What the document's Small, Pow and Times of layer 13 answer.
-/
import Derived.Test.YtohbggdkopmpfaaDoorPwV
namespace Go.Proofs.YtohbggdkopmpfaaDoor
open Go.RowKit

theorem dsmall_nat (x : Nat) (hx : x < Big.B) (w : World) :
    Calls Tryd.prog 29 #[.int .u64 (x : Int)] w fun e w' => ∃ v, e = .returned v ∧ Big.D.NatV w' v x ∧ Below w.heap.size w w' := by
  unfold Big.B at hx
  have e1 : (x : Int) % 4294967296 = (x : Int) := by omega
  have e2 : (x : Int) / 4294967296 = 0 := by omega
  have hS : ∀ W : World, Big.D.Sl (W.alloc (.cells #[.int .u64 (x : Int), .int .u64 0] 22)) (some ⟨W.heap.size, 0, none⟩) 2 2 W.heap.size 0 (fun i => if i = 0 then x else 0) := fun W =>
    ⟨Nat.le_refl _, by unfold maxLen; omega, fun _ => rfl, fun _ => by simp, fun i hi => by
      rcases (by omega : i = 0 ∨ i = 1) with rfl | rfl
      · simp
      · simp, fun i => by show (if i = 0 then x else 0) < Big.B; split; exact hx; decide⟩
  have hV : Big.V (fun i => if i = 0 then x else 0) 2 = x := by
    rw [Big.V_succ, Big.V_succ, Big.V_zero, Nat.pow_zero]; simp
  have HS : Hid (∀ W : World, Big.D.Sl (W.alloc (.cells #[.int .u64 (x : Int), .int .u64 0] 22)) (some ⟨W.heap.size, 0, none⟩) 2 2 W.heap.size 0 (fun i => if i = 0 then x else 0)) := hS
  have HV : Hid (Big.V (fun i => if i = 0 then x else 0) 2 = x) := hV
  clear hS hV
  have T := Big.D.trim_any (HS.out w)
  have NV := (HS.out w).trimmed
  rw [HV.out] at NV
  go_enter Tryd.func29, Tryd.ntmps29
  go_wp2_with fail
  refine T.mono ?_
  rintro e wa ⟨rfl, rfl⟩
  go_wp2
  go_ret
  exact ⟨_, rfl, NV, (Below.refl _ _).alloc (Nat.le_refl _) _⟩

theorem dfits_pow {b m : Nat} (hb : b ≤ 16) (hm : m ≤ 2400) : Fits 400 (b ^ m) := by
  have a : b ^ m ≤ 16 ^ m := Nat.pow_le_pow_left hb m
  rw [show 16 = 2 ^ 4 from rfl, ← Nat.pow_mul] at a
  exact (two_fits (s := 4 * m) (k := 400) (by omega)).le a

set_option maxRecDepth 100000 in
set_option maxHeartbeats 4000000 in
theorem dpow_any (b n : Nat) (h1 : 2 ≤ b) (h2 : b ≤ 16) (hn : n ≤ 1200) (w : World) :
    Calls Tryd.prog 30 #[.int .u64 (b : Int), .int .i64 (n : Int)] w fun e w' => ∃ v, e = .returned v ∧ Big.D.NatV w' v (b ^ n) ∧ Below w.heap.size w w' := by
  have S2 := fun W => dsmall_nat b (by unfold Big.B; omega) W
  have N1 := dnat_one w
  have bA : Below w.heap.size w (w.alloc (.cells #[.int .u64 1] 22)) := (Below.refl _ _).alloc (Nat.le_refl _) _
  have HB : Hid (2 ≤ b ∧ b ≤ 16 ∧ n ≤ 1200) := ⟨h1, h2, hn⟩
  clear h1 h2
  go_enter Tryd.func30, Tryd.ntmps30
  go_wp2_with fail
  refine (S2 _).mono ?_
  rintro e w2 ⟨v2, rfl, n2, b2⟩
  have N2 : Hid (Big.D.NatV w2 (.slice (some ⟨w.heap.size, 0, none⟩) 1 1) 1 ∧ Big.D.NatV w2 v2 b ∧ Below w.heap.size w w2) := ⟨N1.below b2, n2, bA.trans (b2.mono bA.size)⟩
  clear n2 b2 N1 S2 bA
  go_wp2
  go_loopw [1, 5, 6] (fun nv ov pv wr => ∃ (m i j : Nat), nv = .int .i64 (m : Int) ∧ m ≤ 1200 ∧ Hid (Big.D.NatV wr ov (b ^ i) ∧ Big.D.NatV wr pv (b ^ j) ∧ Below w.heap.size w wr ∧ i + j * m = n)) (fun nv _ _ _ => (intOf nv).toNat)
  case atStart => exact ⟨n, 0, 1, rfl, hn, by rw [Nat.pow_zero, Nat.pow_one]; exact ⟨N2.out.1, N2.out.2.1, N2.out.2.2, by rw [Nat.zero_add, Nat.one_mul]⟩⟩
  case round =>
    clear N2
    obtain ⟨m, i, j, rfl, hm, HI⟩ := hrel
    by_cases m0 : 0 < m
    · obtain ⟨h, hh⟩ : ∃ h, h = m / 2 := ⟨_, rfl⟩
      have jm : j ≤ j * m := Nat.le_mul_of_pos_right j m0
      have e2 : (m : Int) / 2 = (h : Int) := by omega
      have hb64 : h ≤ 1200 := by omega
      have hlt : h < m := by omega
      have FX : Hid (Fits 1000 (b ^ i) ∧ Fits 1000 (b ^ j)) := ⟨(dfits_pow HB.out.2.1 (by have := HI.out.2.2.2; have := HB.out; omega)).up (by omega), (dfits_pow HB.out.2.1 (by have := HI.out.2.2.2; have := HB.out; omega)).up (by omega)⟩
      have an := and_one m (by omega)
      rcases Nat.mod_two_eq_zero_or_one m with odd | odd
      · rw [odd] at an
        have HS : Hid (i + (j + j) * h = n) := by
          have a := HI.out.2.2.2
          rw [show m = 2 * h by omega, Nat.mul_left_comm] at a
          show _ = _
          rw [Nat.add_mul]
          omega
        have T2 := dmul_nat HI.out.2.1 HI.out.2.1 FX.out.2 FX.out.2
        rw [← Nat.pow_add] at T2
        clear odd hh jm
        go_wp2_with fail
        refine T2.mono ?_
        rintro e w4 ⟨v4, rfl, n4, b4⟩
        have N4 : Hid (Big.D.NatV w4 u5 (b ^ i) ∧ Big.D.NatV w4 v4 (b ^ (j + j)) ∧ Below w.heap.size w w4) := ⟨HI.out.1.below b4, n4, HI.out.2.2.1.trans (b4.mono HI.out.2.2.1.size)⟩
        clear n4 b4 T2
        go_wp2
        go_roundw
        case rel => exact ⟨h, i, j + j, by first | rfl | go_num | (rw [e2]), hb64, N4.out.1, N4.out.2.1, N4.out.2.2, HS.out⟩
        case measure => simp [intOf]; omega
      · rw [odd] at an
        have HS : Hid ((i + j) + (j + j) * h = n) := by
          have a := HI.out.2.2.2
          rw [show m = 2 * h + 1 by omega, Nat.mul_add, Nat.mul_one, Nat.mul_left_comm] at a
          show _ = _
          rw [Nat.add_mul]
          omega
        have T1 := dmul_nat HI.out.1 HI.out.2.1 FX.out.1 FX.out.2
        rw [← Nat.pow_add] at T1
        clear odd hh jm
        go_wp2_with fail
        refine T1.mono ?_
        rintro e w3 ⟨v3, rfl, n3, b3⟩
        have N3 : Hid (Big.D.NatV w3 v3 (b ^ (i + j)) ∧ Big.D.NatV w3 u6 (b ^ j) ∧ Below w.heap.size w w3) := ⟨n3, HI.out.2.1.below b3, HI.out.2.2.1.trans (b3.mono HI.out.2.2.1.size)⟩
        clear n3 b3 T1
        have T2 := dmul_nat N3.out.2.1 N3.out.2.1 FX.out.2 FX.out.2
        rw [← Nat.pow_add] at T2
        go_wp2_with fail
        refine T2.mono ?_
        rintro e w4 ⟨v4, rfl, n4, b4⟩
        have N4 : Hid (Big.D.NatV w4 v3 (b ^ (i + j)) ∧ Big.D.NatV w4 v4 (b ^ (j + j)) ∧ Below w.heap.size w w4) := ⟨N3.out.1.below b4, n4, N3.out.2.2.trans (b4.mono N3.out.2.2.size)⟩
        clear n4 b4 T2
        go_wp2
        go_roundw
        case rel => exact ⟨h, i + j, j + j, by first | rfl | go_num | (rw [e2]), hb64, N4.out.1, N4.out.2.1, N4.out.2.2, HS.out⟩
        case measure => simp [intOf]; omega
    · obtain rfl : m = 0 := by omega
      have hin : i = n := by have := HI.out.2.2.2; rw [Nat.mul_zero] at this; omega
      subst hin
      go_wp2
      go_ret
      exact ⟨_, rfl, HI.out.1, HI.out.2.2.1⟩

/-- A power in a word, by so many products. -/
theorem pow_word {b n k : Nat} (hb : 0 < b) (hk : k ≤ n) (h : b ^ n < 18446744073709551616) : b ^ k < 18446744073709551616 := Nat.lt_of_le_of_lt (Nat.pow_le_pow_right hb hk) h

end Go.Proofs.YtohbggdkopmpfaaDoor
