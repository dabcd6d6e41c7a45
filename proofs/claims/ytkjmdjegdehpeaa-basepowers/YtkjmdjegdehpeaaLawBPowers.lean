/-
  The law BasePowers: the walk.
-/
import Derived.Test.YtkjmdjegdehpeaaBsK
namespace Go.Proofs.Ytkjmdjegdehpeaa
open Go.RowKit

theorem pow_step {b j K x : Nat} (hb : 2 ≤ b) (h : DLen b x K) (h1 : 1 ≤ j) (hj : j < K) (hx : x < 18446744073709551616) : b ^ (j - 1) * b = b ^ j ∧ b ^ j < 18446744073709551616 := by
  have x0 : x ≠ 0 := fun z => by have := h.2.1 z; omega
  have a := h.2.2.1 x0
  have c := Nat.pow_le_pow_right (show 0 < b by omega) (show j ≤ K - 1 by omega)
  exact ⟨by rw [← Nat.pow_succ]; congr 1; omega, by omega⟩
theorem pow_up {b j K : Nat} (hb : 2 ≤ b) (h : PMost b K) (hj : j ≤ K) : b ^ j < 18446744073709551616 := by
  have c := Nat.pow_le_pow_right (show 0 < b by omega) hj
  have := h.2.1
  omega

set_option maxRecDepth 100000 in
set_option maxHeartbeats 4000000 in
theorem powers_yes (x : Nat) (hx : x < 18446744073709551616) (b : Nat) (h1 : 2 ≤ b) (h2 : b ≤ 36) (w : World) :
    Calls Try.prog 7 #[.int .u64 (x : Int), .int .i64 (b : Int)] w fun e w' => e = .returned (.bool true) ∧ Below w.heap.size w w' := by
  have L1 := fun W => len_yes x b hx h1 h2 W
  have M1 := fun W => most_yes b h1 h2 W
  have S1 := fun W => works_any W
  have u1 : IntKind.u64.wrap (b : Int) = (b : Int) := by rw [IntKind.wrap_u64]; omega
  have d0 : ((b : Int) == 0) = false := beq_eq_false_iff_ne.mpr (by omega)
  obtain ⟨M, hM⟩ : ∃ M : Nat, M = 18446744073709551615 / b := ⟨_, rfl⟩
  have hq : (18446744073709551615 : Int) / (b : Int) = (M : Int) := by rw [hM, Int.natCast_ediv]; rfl
  have HM : Hid (∀ P, P ≤ M ↔ P * b ≤ 18446744073709551615) := fun P => by rw [hM]; exact Nat.le_div_iff_mul_le (by omega)
  have hMb : M < 18446744073709551616 := by rw [hM]; exact Nat.lt_of_le_of_lt (Nat.div_le_self _ _) (by omega)
  have HX : Hid (x < 18446744073709551616) := hx
  have i1 : ¬ (b : Int) < 2 := by omega
  have i2 : ¬ (36 : Int) < (b : Int) := by omega
  clear hM
  go_enter Try.func7, Try.ntmps7
  go_wp2_with fail
  refine (L1 _).mono ?_
  rintro e w ⟨K, rfl, hK, rfl⟩
  go_wp2_with fail
  refine (M1 _).mono ?_
  rintro e w ⟨Q, P, rfl, hQP, rfl⟩
  clear L1 M1
  have HK : Hid (DLen b x K) := hK
  have HQ : Hid (P = b ^ Q ∧ PMost b Q) := hQP
  have k1 : 1 ≤ K := hK.1
  have k2 : K ≤ 64 := hK.le64 h1 hx
  have q1 : 1 ≤ Q := hQP.2.1
  have q2 : Q ≤ 63 := hQP.2.le63 h1
  have p1 : P < 18446744073709551616 := by rw [hQP.1]; exact hQP.2.2.1
  clear hK hQP
  go_wp2
  go_loop [10, 11, 12] (fun lo ov i => ∃ j L : Nat, 1 ≤ j ∧ j ≤ K ∧ i = .int .i64 (j : Int) ∧ lo = .int .u64 (L : Int) ∧ ov = .bool false ∧ L < 18446744073709551616 ∧ Hid (L = b ^ (j - 1))) (fun _ _ i => K - (intOf i).toNat)
  case atStart => exact ⟨1, 1, by omega, by omega, rfl, rfl, rfl, by omega, by show _ = _; rw [Nat.sub_self, Nat.pow_zero]⟩
  case round =>
    obtain ⟨j, L, hj1, hj, rfl, rfl, rfl, hL, HL⟩ := hrel
    have pm : (L : Int) * (b : Int) = ((L * b : Nat) : Int) := by rw [Int.natCast_mul]
    by_cases c : j < K
    · have ps := pow_step h1 HK.out hj1 c HX.out
      have HN : Hid (L * b = b ^ (j + 1 - 1)) := by show _ = _; rw [HL.out, ps.1, Nat.add_sub_cancel]
      have hlb : L * b < 18446744073709551616 := by rw [HN.out, Nat.add_sub_cancel]; exact ps.2
      have hlm : L ≤ M := (HM.out L).2 (by omega)
      generalize L * b = R at *
      have c' : ¬ (M : Int) < (L : Int) := by omega
      have r1 : IntKind.u64.wrap (R : Int) = (R : Int) := by rw [IntKind.wrap_u64]; omega
      clear ps hlm
      go_wp2
      go_round
      case rel => exact ⟨j + 1, R, by omega, by omega, by go_num, by first | rfl | rw [pm], rfl, hlb, HN⟩
      case measure => simp [intOf]; omega
    · obtain rfl : j = K := by omega
      have HF : Hid (x = 0 → j = 1) := HK.out.2.1
      have HG : Hid (x ≠ 0 → L ≤ x) := fun z => by rw [HL.out]; exact HK.out.2.2.1 z
      have HH : Hid (x < L * b) := by
        show _ < _
        rw [HL.out, ← Nat.pow_succ, show (j - 1).succ = j by omega]; exact HK.out.2.2.2
      by_cases lm : L ≤ M
      · have hlb := (HM.out L).1 lm
        generalize L * b = R at *
        have r1 : IntKind.u64.wrap (R : Int) = (R : Int) := by rw [IntKind.wrap_u64]; omega
        have t1 : (L : Int) ≤ (M : Int) := by omega
        have t2 : ¬ (R : Int) ≤ (x : Int) := by have := HH.out; omega
        clear lm
        by_cases x0 : x = 0
        · subst x0
          obtain rfl := HF.out rfl
          go_wp2
          go_loop [13, 14] (fun q i => ∃ m Y : Nat, m ≤ Q ∧ i = .int .i64 (m : Int) ∧ q = .int .u64 (Y : Int) ∧ Y < 18446744073709551616 ∧ Hid (Y = b ^ m)) (fun _ i => Q - (intOf i).toNat)
          case atStart => exact ⟨0, 1, Nat.zero_le _, rfl, rfl, by omega, by show _ = _; rw [Nat.pow_zero]⟩
          case round =>
            obtain ⟨m, Y, hm, rfl, rfl, hY, HY⟩ := hrel
            have pm : (Y : Int) * (b : Int) = ((Y * b : Nat) : Int) := by rw [Int.natCast_mul]
            by_cases cm : m < Q
            · have HN : Hid (Y * b = b ^ (m + 1)) := by show _ = _; rw [HY.out, Nat.pow_succ]
              have hyb : Y * b < 18446744073709551616 := by rw [HN.out]; exact pow_up h1 HQ.out.2 (by omega)
              generalize Y * b = Z at *
              have z1 : IntKind.u64.wrap (Z : Int) = (Z : Int) := by rw [IntKind.wrap_u64]; omega
              go_wp2
              go_round
              case rel => exact ⟨m + 1, Z, by omega, by go_num, by first | rfl | rw [pm], hyb, HN⟩
              case measure => simp [intOf]; omega
            · obtain rfl : m = Q := by omega
              have yp : Y = P := by rw [HY.out, HQ.out.1]
              subst yp
              have v1 : (M : Int) < (Y : Int) := by
                have a := HQ.out.2.2.2
                rw [Nat.pow_succ, ← HQ.out.1] at a
                have : ¬ Y ≤ M := fun z => by have := (HM.out Y).1 z; omega
                omega
              clear pm
              go_wp2_with fail
              refine (S1 _).mono ?_
              rintro e w1 ⟨rfl, b1⟩
              go_wp2
              go_ret
              exact ⟨rfl, b1⟩
        · have t3 : (0 : Int) < (x : Int) := by omega
          have t4 : ¬ (x : Int) < (L : Int) := by have := HG.out x0; omega
          have t5 : ((x : Int) == 0) = false := beq_eq_false_iff_ne.mpr (by omega)
          clear x0
          go_wp2
          go_loop [13, 14] (fun q i => ∃ m Y : Nat, m ≤ Q ∧ i = .int .i64 (m : Int) ∧ q = .int .u64 (Y : Int) ∧ Y < 18446744073709551616 ∧ Hid (Y = b ^ m)) (fun _ i => Q - (intOf i).toNat)
          case atStart => exact ⟨0, 1, Nat.zero_le _, rfl, rfl, by omega, by show _ = _; rw [Nat.pow_zero]⟩
          case round =>
            obtain ⟨m, Y, hm, rfl, rfl, hY, HY⟩ := hrel
            have pm : (Y : Int) * (b : Int) = ((Y * b : Nat) : Int) := by rw [Int.natCast_mul]
            by_cases cm : m < Q
            · have HN : Hid (Y * b = b ^ (m + 1)) := by show _ = _; rw [HY.out, Nat.pow_succ]
              have hyb : Y * b < 18446744073709551616 := by rw [HN.out]; exact pow_up h1 HQ.out.2 (by omega)
              generalize Y * b = Z at *
              have z1 : IntKind.u64.wrap (Z : Int) = (Z : Int) := by rw [IntKind.wrap_u64]; omega
              go_wp2
              go_round
              case rel => exact ⟨m + 1, Z, by omega, by go_num, by first | rfl | rw [pm], hyb, HN⟩
              case measure => simp [intOf]; omega
            · obtain rfl : m = Q := by omega
              have yp : Y = P := by rw [HY.out, HQ.out.1]
              subst yp
              have v1 : (M : Int) < (Y : Int) := by
                have a := HQ.out.2.2.2
                rw [Nat.pow_succ, ← HQ.out.1] at a
                have : ¬ Y ≤ M := fun z => by have := (HM.out Y).1 z; omega
                omega
              clear pm
              go_wp2_with fail
              refine (S1 _).mono ?_
              rintro e w1 ⟨rfl, b1⟩
              go_wp2
              go_ret
              exact ⟨rfl, b1⟩
      · have x0 : x ≠ 0 := fun z => by
          have e := HF.out z
          have l1 : L = 1 := by rw [HL.out, e, Nat.sub_self, Nat.pow_zero]
          rw [l1] at lm
          exact lm ((HM.out 1).2 (by omega))
        have t1 : ¬ (L : Int) ≤ (M : Int) := by omega
        have t3 : (0 : Int) < (x : Int) := by omega
        have t4 : ¬ (x : Int) < (L : Int) := by have := HG.out x0; omega
        have t5 : ((x : Int) == 0) = false := beq_eq_false_iff_ne.mpr (by omega)
        clear x0 lm pm
        go_wp2
        go_loop [13, 14] (fun q i => ∃ m Y : Nat, m ≤ Q ∧ i = .int .i64 (m : Int) ∧ q = .int .u64 (Y : Int) ∧ Y < 18446744073709551616 ∧ Hid (Y = b ^ m)) (fun _ i => Q - (intOf i).toNat)
        case atStart => exact ⟨0, 1, Nat.zero_le _, rfl, rfl, by omega, by show _ = _; rw [Nat.pow_zero]⟩
        case round =>
          obtain ⟨m, Y, hm, rfl, rfl, hY, HY⟩ := hrel
          have pm : (Y : Int) * (b : Int) = ((Y * b : Nat) : Int) := by rw [Int.natCast_mul]
          by_cases cm : m < Q
          · have HN : Hid (Y * b = b ^ (m + 1)) := by show _ = _; rw [HY.out, Nat.pow_succ]
            have hyb : Y * b < 18446744073709551616 := by rw [HN.out]; exact pow_up h1 HQ.out.2 (by omega)
            generalize Y * b = Z at *
            have z1 : IntKind.u64.wrap (Z : Int) = (Z : Int) := by rw [IntKind.wrap_u64]; omega
            go_wp2
            go_round
            case rel => exact ⟨m + 1, Z, by omega, by go_num, by first | rfl | rw [pm], hyb, HN⟩
            case measure => simp [intOf]; omega
          · obtain rfl : m = Q := by omega
            have yp : Y = P := by rw [HY.out, HQ.out.1]
            subst yp
            have v1 : (M : Int) < (Y : Int) := by
              have a := HQ.out.2.2.2
              rw [Nat.pow_succ, ← HQ.out.1] at a
              have : ¬ Y ≤ M := fun z => by have := (HM.out Y).1 z; omega
              omega
            clear pm
            go_wp2_with fail
            refine (S1 _).mono ?_
            rintro e w1 ⟨rfl, b1⟩
            go_wp2
            go_ret
            exact ⟨rfl, b1⟩
theorem powers_law (x : Nat) (hx : x < 18446744073709551616) (b : Int) (w : World) :
    Calls Try.prog 7 #[.int .u64 (x : Int), .int .i64 b] w fun e w' => e = .returned (.bool true) ∧ Below w.heap.size w w' := by
  by_cases h : 2 ≤ b ∧ b ≤ 36
  · obtain ⟨n, rfl⟩ : ∃ n : Nat, b = (n : Int) := ⟨b.toNat, by omega⟩
    exact powers_yes x hx n (by omega) (by omega) w
  · have L1 := fun W => len_no (x : Int) b (by omega) W
    have M1 := fun W => most_no b (by omega) W
    have S1 := fun W => works_any W
    have N1 := fun W => num_errno 7 W
    by_cases h1 : b < 2
    · clear h
      go_enter Try.func7, Try.ntmps7
      go_wp2_with fail
      refine (L1 _).mono ?_
      rintro e w ⟨rfl, rfl⟩
      go_wp2_with fail
      refine (M1 _).mono ?_
      rintro e w ⟨rfl, rfl⟩
      go_wp2_with fail
      refine (N1 _).mono ?_
      rintro e w ⟨rfl, rfl⟩
      go_wp2_with fail
      refine (N1 _).mono ?_
      rintro e w ⟨rfl, rfl⟩
      go_wp2_with fail
      refine (S1 _).mono ?_
      rintro e w1 ⟨rfl, b1⟩
      go_wp2
      go_ret
      exact ⟨rfl, b1⟩
    · have h2 : 36 < b := by omega
      clear h
      go_enter Try.func7, Try.ntmps7
      go_wp2_with fail
      refine (L1 _).mono ?_
      rintro e w ⟨rfl, rfl⟩
      go_wp2_with fail
      refine (M1 _).mono ?_
      rintro e w ⟨rfl, rfl⟩
      go_wp2_with fail
      refine (N1 _).mono ?_
      rintro e w ⟨rfl, rfl⟩
      go_wp2_with fail
      refine (N1 _).mono ?_
      rintro e w ⟨rfl, rfl⟩
      go_wp2_with fail
      refine (S1 _).mono ?_
      rintro e w1 ⟨rfl, b1⟩
      go_wp2
      go_ret
      exact ⟨rfl, b1⟩
end Go.Proofs.Ytkjmdjegdehpeaa
