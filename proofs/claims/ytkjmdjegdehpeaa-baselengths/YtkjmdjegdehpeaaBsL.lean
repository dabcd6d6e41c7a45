/-
  base's Len, Most, Head: what they answer for every input.
-/
import Derived.Test.YtkjmdjegdehpeaaBsA
namespace Go.Proofs.Ytkjmdjegdehpeaa
open Go.RowKit

set_option maxRecDepth 100000 in
set_option maxHeartbeats 1000000 in
theorem len_yes (x b : Nat) (hx : x < 18446744073709551616) (h1 : 2 ≤ b) (h2 : b ≤ 36) (w : World) :
    Calls Try.prog 22 #[.int .u64 (x : Int), .int .i64 (b : Int)] w fun e w' => ∃ K : Nat, e = .returned (.tuple #[.int .i64 (K : Int), .nilIface]) ∧ DLen b x K ∧ w' = w := by
  have V := fun W => valid_yes (b : Int) (by omega) (by omega) W
  have u1 : IntKind.u64.wrap (b : Int) = (b : Int) := by rw [IntKind.wrap_u64]; omega
  have d0 : ((b : Int) == 0) = false := beq_eq_false_iff_ne.mpr (by omega)
  have HX : Hid (x < 18446744073709551616) := hx
  clear hx
  go_enter Try.func22, Try.ntmps22
  go_wp2_with fail
  refine (V _).mono ?_
  rintro e w1 ⟨rfl, rfl⟩
  go_wp2
  go_loop [0, 6] (fun xv n => ∃ k y : Nat, xv = .int .u64 (y : Int) ∧ n = .int .i64 (k : Int) ∧ 1 ≤ k ∧ k ≤ 64 ∧ y < 18446744073709551616 ∧ Hid (y = x / b ^ (k - 1) ∧ (k = 1 ∨ b ^ (k - 1) ≤ x))) (fun xv _ => (intOf xv).toNat)
  case atStart => exact ⟨1, x, rfl, rfl, Nat.le_refl _, by omega, HX.out, ⟨by rw [Nat.sub_self, Nat.pow_zero, Nat.div_one], Or.inl rfl⟩⟩
  case round =>
    clear V
    obtain ⟨k, y, rfl, rfl, hk1, hk2, hy, HY⟩ := hrel
    have hq : (y : Int) / (b : Int) = ((y / b : Nat) : Int) := by rw [Int.natCast_ediv]
    have hlt : y / b ≤ y := Nat.div_le_self _ _
    by_cases c : b ≤ y
    · have hbk : b ^ k ≤ x := by
        rw [show b ^ k = b * b ^ (k - 1) by rw [Nat.mul_comm, ← Nat.pow_succ]; congr 1; omega]
        have := HY.out.1
        rw [this] at c
        exact (Nat.le_div_iff_mul_le (Nat.pow_pos (by omega))).1 c
      have hk64 := exp_lt h1 (Nat.lt_of_le_of_lt hbk HX.out)
      have HN : Hid (y / b = x / b ^ k ∧ b ^ k ≤ x) := ⟨by rw [HY.out.1, Nat.div_div_eq_div_mul, ← Nat.pow_succ]; congr 2; omega, hbk⟩
      have hsm : y / b < y := Nat.div_lt_self (by omega) (by omega)
      clear hbk
      generalize y / b = z at *
      have c' : (b : Int) ≤ (y : Int) := by omega
      have z1 : IntKind.u64.wrap (z : Int) = (z : Int) := by rw [IntKind.wrap_u64]; omega
      go_wp2
      go_round
      case rel => exact ⟨k + 1, z, by first | rfl | rw [hq], by go_num, by omega, by omega, by omega, ⟨by rw [Nat.add_sub_cancel]; exact HN.out.1, Or.inr (by rw [Nat.add_sub_cancel]; exact HN.out.2)⟩⟩
      case measure => simp [intOf] <;> omega
    · have HD : Hid (DLen b x k) := by
        refine ⟨hk1, fun h0 => ?_, fun h0 => ?_, ?_⟩
        · rcases HY.out.2 with q | q
          · exact q
          · have : 0 < b ^ (k - 1) := Nat.pow_pos (by omega)
            omega
        · rcases HY.out.2 with q | q
          · rw [q, Nat.sub_self, Nat.pow_zero]; omega
          · exact q
        · have := HY.out.1
          rw [this] at c
          rw [show b ^ k = b * b ^ (k - 1) by rw [Nat.mul_comm, ← Nat.pow_succ]; congr 1; omega]
          exact (Nat.div_lt_iff_lt_mul (Nat.pow_pos (by omega))).1 (by omega)
      have c' : ¬ (b : Int) ≤ (y : Int) := by omega
      clear hq hlt c
      go_wp2
      go_ret2
      exact ⟨k, rfl, HD.out, rfl⟩
theorem len_no (x b : Int) (h : b < 2 ∨ 36 < b) (w : World) :
    Calls Try.prog 22 #[.int .u64 x, .int .i64 b] w fun e w' => e = .returned (.tuple #[.int .i64 0, .iface 51 (.int .i64 7)]) ∧ w' = w := by
  have V := fun W => valid_no b h W
  go_enter Try.func22, Try.ntmps22
  go_wp2_with fail
  refine (V _).mono ?_
  rintro e w1 ⟨rfl, rfl⟩
  go_wp2
  go_ret2
  exact ⟨rfl, rfl⟩
set_option maxRecDepth 100000 in
set_option maxHeartbeats 1000000 in
theorem most_yes (b : Nat) (h1 : 2 ≤ b) (h2 : b ≤ 36) (w : World) :
    Calls Try.prog 24 #[.int .i64 (b : Int)] w fun e w' => ∃ K P : Nat, e = .returned (.tuple #[.int .i64 (K : Int), .int .u64 (P : Int), .nilIface]) ∧ (P = b ^ K ∧ PMost b K) ∧ w' = w := by
  have V := fun W => valid_yes (b : Int) (by omega) (by omega) W
  have u1 : IntKind.u64.wrap (b : Int) = (b : Int) := by rw [IntKind.wrap_u64]; omega
  have d0 : ((b : Int) == 0) = false := beq_eq_false_iff_ne.mpr (by omega)
  obtain ⟨M, hM⟩ : ∃ M : Nat, M = 18446744073709551615 / b := ⟨_, rfl⟩
  have hq : (18446744073709551615 : Int) / (b : Int) = (M : Int) := by rw [hM, Int.natCast_ediv]; rfl
  have HM : Hid (∀ P, P ≤ M ↔ P * b ≤ 18446744073709551615) := fun P => by rw [hM]; exact Nat.le_div_iff_mul_le (by omega)
  have hMb : M < 18446744073709551616 := by rw [hM]; exact Nat.lt_of_le_of_lt (Nat.div_le_self _ _) (by omega)
  clear hM
  go_enter Try.func24, Try.ntmps24
  go_wp2_with fail
  refine (V _).mono ?_
  rintro e w1 ⟨rfl, rfl⟩
  go_wp2
  go_loop [6, 7] (fun n p => ∃ k P : Nat, n = .int .i64 (k : Int) ∧ p = .int .u64 (P : Int) ∧ 1 ≤ k ∧ k < 64 ∧ P < 18446744073709551616 ∧ Hid (P = b ^ k)) (fun n _ => 64 - (intOf n).toNat)
  case atStart => exact ⟨1, b, rfl, rfl, Nat.le_refl _, by omega, by omega, (Nat.pow_one b).symm⟩
  case round =>
    clear V
    obtain ⟨k, P, rfl, rfl, hk1, hk2, hP, HP⟩ := hrel
    have pm : (P : Int) * (b : Int) = ((P * b : Nat) : Int) := by rw [Int.natCast_mul]
    by_cases c : P ≤ M
    · have hPb := (HM.out P).1 c
      have HN : Hid (P * b = b ^ (k + 1)) := by show _ = _; rw [HP.out, Nat.pow_succ]
      have hk : k + 1 < 64 := exp_lt h1 (by rw [← HN.out]; omega)
      generalize P * b = Q at *
      have c' : (P : Int) ≤ (M : Int) := by omega
      have q1 : IntKind.u64.wrap (Q : Int) = (Q : Int) := by rw [IntKind.wrap_u64]; omega
      go_wp2
      go_round
      case rel => exact ⟨k + 1, Q, by go_num, by first | rfl | rw [pm], by omega, hk, by omega, HN.out⟩
      case measure => simp [intOf]; omega
    · have HK : Hid (PMost b k) := ⟨hk1, by rw [← HP.out]; exact hP, by
        have : ¬ P * b ≤ 18446744073709551615 := fun z => c ((HM.out P).2 z)
        rw [Nat.pow_succ, ← HP.out]; omega⟩
      have c' : ¬ (P : Int) ≤ (M : Int) := by omega
      clear pm
      go_wp2
      refine bodyPost_ret (v := .tuple #[.int .i64 (k : Int), .int .u64 (P : Int), .nilIface]) (by simp [results, Try.results24, go_sem]) rfl ⟨k, P, rfl, ⟨HP.out, HK.out⟩, rfl⟩
theorem most_no (b : Int) (h : b < 2 ∨ 36 < b) (w : World) :
    Calls Try.prog 24 #[.int .i64 b] w fun e w' => e = .returned (.tuple #[.int .i64 0, .int .u64 0, .iface 51 (.int .i64 7)]) ∧ w' = w := by
  have V := fun W => valid_no b h W
  go_enter Try.func24, Try.ntmps24
  go_wp2_with fail
  refine (V _).mono ?_
  rintro e w1 ⟨rfl, rfl⟩
  go_wp2
  refine bodyPost_ret (v := .tuple #[.int .i64 0, .int .u64 0, .iface 51 (.int .i64 7)]) (by simp [results, Try.results24, go_sem]) rfl ⟨rfl, rfl⟩
set_option maxRecDepth 100000 in
set_option maxHeartbeats 1000000 in
theorem head_yes (s : ByteArray) (hs : s.size ≤ 9223372036854775807) (b : Nat) (h1 : 2 ≤ b) (h2 : b ≤ 36) (w : World) :
    Calls Try.prog 19 #[.string s, .int .i64 (b : Int)] w fun e w' => e = .returned (.tuple #[.int .i64 (hdn b s.data.toList : Int), .nilIface]) ∧ w' = w := by
  have V := fun W => valid_yes (b : Int) (by omega) (by omega) W
  have D := fun c W => isDigit_any c b h2 W
  obtain ⟨n, hn⟩ : ∃ n, n = hdn b s.data.toList := ⟨_, rfl⟩
  rw [← hn]
  have HN : Hid (n = hdn b s.data.toList) := hn
  clear hn h1 h2
  go_enter Try.func19, Try.ntmps19
  go_wp2_with fail
  refine (V _).mono ?_
  rintro e w1 ⟨rfl, rfl⟩
  go_wp2
  go_loop [6] (fun i => ∃ k : Nat, k ≤ s.size ∧ i = .int .i64 (k : Int) ∧ Hid (n = k + hdn b (s.data.toList.drop k))) (fun i => s.size - (intOf i).toNat)
  case atStart => exact ⟨0, Nat.zero_le _, rfl, by rw [List.drop_zero, Nat.zero_add]; exact HN.out⟩
  case round =>
    clear V HN
    obtain ⟨k, hk, rfl, HK⟩ := hrel
    by_cases hlt : k < s.size
    · have hd := drop_at s hlt
      obtain ⟨c, hc⟩ : ∃ c, s[k]'hlt = c := ⟨_, rfl⟩
      rw [hc] at hd
      have hc' : (((s[k]'hlt).toNat : Nat) : Int) = (c.toNat : Int) := by rw [hc]
      have D1 := fun W => D c W
      by_cases q : isD b c = true
      · rw [q] at D1
        have HK2 : Hid (n = (k + 1) + hdn b (s.data.toList.drop (k + 1))) := by
          show _ = _
          rw [HK.out, hd, hdn_yes q]; omega
        clear hd hc q D
        go_wp2_with fail
        refine (D1 _).mono ?_
        rintro e w1 ⟨rfl, rfl⟩
        go_wp2
        go_round
        case rel => exact ⟨k + 1, by omega, by go_num, HK2⟩
        case measure => simp [intOf]; omega
      · have q' : isD b c = false := by simpa using q
        rw [q'] at D1
        have HK2 : Hid (n = k) := by
          show _ = _
          rw [HK.out, hd, hdn_no q']; omega
        clear hd hc q q' D
        go_wp2_with fail
        refine (D1 _).mono ?_
        rintro e w1 ⟨rfl, rfl⟩
        go_wp2
        go_ret2
        exact ⟨by rw [HK2.out]; rfl, rfl⟩
    · have HK2 : Hid (n = k) := by
        show _ = _
        rw [HK.out, drop_end s hlt]; rfl
      clear D
      go_wp2
      go_ret2
      exact ⟨by rw [HK2.out]; rfl, rfl⟩
theorem head_no (s : ByteArray) (b : Int) (h : b < 2 ∨ 36 < b) (w : World) :
    Calls Try.prog 19 #[.string s, .int .i64 b] w fun e w' => e = .returned (.tuple #[.int .i64 0, .iface 51 (.int .i64 7)]) ∧ w' = w := by
  have V := fun W => valid_no b h W
  go_enter Try.func19, Try.ntmps19
  go_wp2_with fail
  refine (V _).mono ?_
  rintro e w1 ⟨rfl, rfl⟩
  go_wp2
  go_ret2
  exact ⟨rfl, rfl⟩
end Go.Proofs.Ytkjmdjegdehpeaa
