/-
  What a call of nat.shiftDown answers: the number by a power of two, rounded down, and whether anything was cut off.
-/
import Derived.Test.YtkkgancmodhghaaDoorNatZ
namespace Go.Proofs.YtkkgancmodhghaaDoor
open Go.RowKit

theorem down_gen {b t a x r h c P : Nat} (h1 : x * c = b * h + r) (hB : b = t * c) (hp : 0 < t) : (a + x * (P * b)) / t = a / t + r * P + h * (P * b) := by
  have e1 : x * (P * b) = t * (x * c * P) := by rw [hB]; grind
  rw [e1, Nat.add_mul_div_left _ _ hp, h1]
  grind

theorem down_fin {v x r P h b : Nat} : v + (r + x) * P + h * (P * b) = v + x * P + r * P + h * (P * b) := by grind

set_option maxRecDepth 100000 in
set_option maxHeartbeats 2000000 in
theorem shiftDown_any {w : World} (hT : Tab w) {ao : Option Addr} {n c b o : Nat} {f : Nat → Nat} (S : Sl w ao n c b o f) (hn : n ≤ 1000) (s q p : Nat) (hsq : s = 64 * q + p) (hp : p < 64) (hqn : q < n) (h0 : V f n ≠ 0) :
    Calls Tryd.prog 65 #[.slice ao n c, .int .i64 (s : Int)] w fun e w' => e = .returned (.tuple #[.slice (some ⟨w.heap.size, 0, none⟩) (n - q) (n - q), .bool (decide (V f n % 2 ^ s ≠ 0))]) ∧ Below w.heap.size w w' ∧
      ∃ F, Row w' w.heap.size (n - q) F ∧ V F (n - q) = V f n / 2 ^ s := by
  have hmk := run_make_row' (P := Tryd.prog) 23 35 (.int .u64 0) 8 und_nat info_u64 rfl .i64 .i64 (n - q) (by omega) (by omega)
  rw [show ((n - q : Nat) : Int) = (n : Int) - (q : Int) by omega] at hmk
  have e1 : (s : Int) / 64 = (q : Int) := by omega
  have e2 : (s : Int) % 64 = (p : Int) := by omega
  have HS : Hid (Sl w ao n c b o f) := S
  have HQ : Hid (s = 64 * q + p) := hsq
  have H0 : Hid (V f n ≠ 0) := h0
  have hss : s ≤ 100000 := by omega
  clear S hsq h0
  go_enter Tryd.func65, Tryd.ntmps65
  go_wp2
  simp only [e2]
  go_loopw [28] (fun i wr => ∃ (k : Nat) (F' : Nat → Nat), i = .int .i64 (k : Int) ∧ k ≤ n - q ∧ Row wr w.heap.size (n - q) F' ∧ Below w.heap.size w wr ∧ (∀ j, k ≤ j → F' j = 0) ∧ (k = 0 ∨ F' (k - 1) < 2 ^ (64 - p)) ∧ V F' k = V (fun i => f (q + i)) k / 2 ^ p) (fun i _ => n - q - (intOf i).toNat)
  case atStart => exact ⟨0, fun _ => 0, rfl, Nat.zero_le _, made_row _ _, (Below.refl _ _).alloc (Nat.le_refl _) _, fun _ _ => rfl, Or.inl rfl, by rw [V_zero, V_zero, Nat.zero_div]⟩
  case round =>
    obtain ⟨k, F', rfl, hk, R', hbl, hz, hlo, hv⟩ := hrel
    have HZ : Hid (∀ j, k ≤ j → F' j = 0) := hz
    have HV : Hid (V F' k = V (fun i => f (q + i)) k / 2 ^ p) := hv
    have HB : Hid (Below w.heap.size w wr) := hbl
    have HR : Hid (Row wr w.heap.size (n - q) F') := R'
    have HL : Hid (k = 0 ∨ F' (k - 1) < 2 ^ (64 - p)) := hlo
    clear hz hv hlo
    by_cases c1 : k < n - q
    · obtain rfl := HS.out.addr (by omega)
      have hc := (HS.out.below hbl).cell (q + k) (by omega)
      have cz := R'.row.cell (i := k) c1
      have fz := R'.row.frozen k
      by_cases c2 : k = 0
      · subst c2
        rw [Nat.add_zero] at hc
        clear hbl R'
        go_wp2
        go_roundw
        case rel =>
          have d1 : ((f q : Nat) : Int) / 2 ^ p = ((f q / 2 ^ p : Nat) : Int) := by rw [pow_cast]; rfl
          have d2 : f q / 2 ^ p < 2 ^ (64 - p) := by
            rw [Nat.div_lt_iff_lt_mul (Nat.pow_pos (by omega)), B_part (Nat.le_of_lt hp)]; exact HS.out.ws q
          have d3 : f q / 2 ^ p < B := Nat.lt_of_le_of_lt (Nat.div_le_self _ _) (HS.out.ws q)
          rw [d1]
          refine ⟨1, put F' 0 (f q / 2 ^ p), rfl, by omega, HR.out.set 0 d3, HB.out.setCell (Nat.le_refl _) _, fun j hj => ?_, Or.inr d2, ?_⟩
          · rw [put_ne (by omega)]; exact HZ.out j (by omega)
          · rw [V_succ, V_succ, V_zero, V_zero, put_at, Nat.pow_zero, Nat.mul_one, Nat.mul_one, Nat.zero_add, Nat.zero_add, Nat.add_zero]
        case measure => simp [intOf]; omega
      · have cz1 := R'.row.cell (i := k - 1) (by omega)
        have fz1 := R'.row.frozen (k - 1)
        have c3 : (0 : Int) < (k : Int) := by omega
        have hbk := HS.out.blk (by omega)
        have nb1 : ¬ (w.heap.size = b) := by omega
        have nb2 : ¬ (b = w.heap.size) := by omega
        have nk1 : ¬ (k = k - 1) := by omega
        have nk2 : ¬ (k - 1 = k) := by omega
        clear hbl R' hbk
        go_wp2
        go_region
        all_goals
          go_wp2
          go_roundw
          case rel =>
            obtain ⟨kk, hkk⟩ : ∃ kk, k = kk + 1 := ⟨k - 1, by omega⟩
            subst hkk
            rw [Nat.add_sub_cancel] at *
            have hlo := HL.out.resolve_left (by omega)
            have d1 : ((f (q + (kk + 1)) : Nat) : Int) / 2 ^ p = ((f (q + (kk + 1)) / 2 ^ p : Nat) : Int) := by rw [pow_cast]; rfl
            have d2 : f (q + (kk + 1)) / 2 ^ p < 2 ^ (64 - p) := by
              rw [Nat.div_lt_iff_lt_mul (Nat.pow_pos (by omega)), B_part (Nat.le_of_lt hp)]; exact HS.out.ws _
            have d3 : f (q + (kk + 1)) / 2 ^ p < B := Nat.lt_of_le_of_lt (Nat.div_le_self _ _) (HS.out.ws _)
            have u1 := up_lo (x := f (q + (kk + 1))) (p := 64 - p) (by omega) hlo
            have u3 := up_room (x := f (q + (kk + 1))) (p := 64 - p) (by omega) hlo
            have bp : B = 2 ^ p * 2 ^ (64 - p) := by rw [Nat.mul_comm, B_part (Nat.le_of_lt hp)]
            have hh : f (q + (kk + 1)) * 2 ^ (64 - p) / B = f (q + (kk + 1)) / 2 ^ p := by rw [bp, Nat.mul_div_mul_right _ _ (Nat.pow_pos (by omega))]
            have dg := down_gen (a := V (fun i => f (q + i)) (kk + 1)) (P := B ^ kk) (Nat.div_add_mod (f (q + (kk + 1)) * 2 ^ (64 - p)) B).symm bp (Nat.pow_pos (by omega))
            rw [hh] at dg
            rw [d1, u1]
            refine ⟨kk + 1 + 1, put (put F' (kk + 1) (f (q + (kk + 1)) / 2 ^ p)) kk (f (q + (kk + 1)) * 2 ^ (64 - p) % B + F' kk), by go_num, by omega, ((HR.out.set (kk + 1) d3).set kk u3).drew, ((HB.out.setCell (Nat.le_refl _) _).setCell (Nat.le_refl _) _).drew, fun j hj => ?_, Or.inr ?_, ?_⟩
            · rw [put_ne (by omega), put_ne (by omega)]; exact HZ.out j (by omega)
            · rw [Nat.add_sub_cancel, put_ne (by omega), put_at]; exact d2
            · have hv := HV.out
              rw [V_succ F'] at hv
              rw [V_succ, put_ne (by omega), put_at, V_succ, V_put_low (Nat.le_refl _), V_put_low (by omega), put_at, V_succ (fun i => f (q + i)) (kk + 1), Nat.pow_succ, dg, ← hv]
              exact down_fin
          case measure => simp [intOf]; omega
    · obtain rfl : k = n - q := by omega
      have Z := zeros_any (hT.next hbl) (HS.out.below hbl) hn H0.out
      clear R' hbl
      go_wp2_with fail
      refine Z.mono ?_
      rintro e wa ⟨z, j, rfl, hzj, hzn, rfl⟩
      have om := odd_mod (s := s) hzj
      have HD : Hid (decide ((z : Int) < (s : Int)) = decide (V f n % 2 ^ s ≠ 0)) := by
        rw [Bool.eq_iff_iff, decide_eq_true_iff, decide_eq_true_iff]
        exact ⟨fun h => om.mp (by omega), fun h => by have := om.mpr h; omega⟩
      clear hzj om
      go_wp2
      refine bodyPost_ret (v := .tuple #[.slice (some ⟨w.heap.size, 0, none⟩) (n - q) (n - q), .bool (decide ((z : Int) < (s : Int)))]) (by simp [results, Tryd.results65, go_sem]) rfl ⟨by rw [HD.out], HB.out, F', HR.out, ?_⟩
      have e := V_split f q (n - q)
      rw [show q + (n - q) = n by omega] at e
      rw [HV.out, HQ.out, two_B, ← Nat.div_div_eq_div_mul, e, Nat.add_mul_div_right _ _ (Bp_pos q), Nat.div_eq_of_lt (V_lt HS.out.ws q), Nat.zero_add]

end Go.Proofs.YtkkgancmodhghaaDoor
