/-
  Holds: VNatE VNatZ VNatF.
-/
import Derived.Test.YtjagnfddmlkalaaGreatDoorRows
import Derived.Laws.Externs
import Derived.WalkKit
import Derived.WalkSpells
import Derived.WalkLawsBesides
import Derived.Lib.Mul64
import Derived.Deep.OwnRows
import Derived.Laws.CopyOwn
import Derived.BigQuiet
import Derived.Deep.RegionHeld3
import Derived.Lib.TrailingZeros
import Derived.Test.YtjagnfddmlkalaaGreatDoorKj15
import Derived.Test.YtjagnfddmlkalaaGreatDoorKj16
import Derived.Test.YtjagnfddmlkalaaGreatDoorKj18
set_option maxRecDepth 100000
set_option maxHeartbeats 4000000
namespace Go.Proofs.YtjagnfddmlkalaaGreatDoor
open Go.RowKit
theorem B_pow (q : Nat) : B ^ q = 2 ^ (64 * q) := by
 rw [Nat.pow_mul]; rfl
theorem B_part {p : Nat} (hp : p ≤ 64) : 2 ^ (64 - p) * 2 ^ p = B := by rw [← Nat.pow_add, show 64 - p + p = 64 by omega]; rfl
theorem two_B (q p : Nat) : 2 ^ (64 * q + p) = B ^ q * 2 ^ p := by rw [Nat.pow_add, B_pow]
theorem up_room {x z p : Nat} (hp : p ≤ 64) (hz : z < 2 ^ p) : x * 2 ^ p % B + z < B := by
 have e : x * 2 ^ p % B = 2 ^ p * (x % 2 ^ (64 - p)) := by rw [← B_part hp, Nat.mul_mod_mul_right, Nat.mul_comm]
 have q : x % 2 ^ (64 - p) + 1 ≤ 2 ^ (64 - p) := Nat.mod_lt _ (Nat.pow_pos (by omega))
 have r := Nat.mul_le_mul_left (2 ^ p) q
 rw [Nat.mul_add, Nat.mul_comm (2 ^ p) (2 ^ (64 - p)), B_part hp] at r
 omega
theorem up_lo {x z p : Nat} (hp : p ≤ 64) (hz : z < 2 ^ p) : bits .or .u64 (z : Int) (IntKind.u64.wrap ((x : Int) * 2 ^ p)) = ((x * 2 ^ p % B + z : Nat) : Int) := by
 have hzB : z < 18446744073709551616 := Nat.lt_of_lt_of_le hz (by have : (2 : Nat) ^ p ≤ 2 ^ 64 := Nat.pow_le_pow_right (by omega) hp; exact this)
 have e : IntKind.u64.wrap ((x : Int) * 2 ^ p) = ((x * 2 ^ p % 18446744073709551616 : Nat) : Int) := by
  rw [IntKind.wrap_u64, pow_cast, ← Int.natCast_mul]; rfl
 have o := shl_or x z p (by omega) hz
 have r := up_room (x := x) hp hz
 rw [e, bits_or_u64_nat z _ hzB (Nat.mod_lt _ (by omega)), Nat.or_comm, o]
 unfold B at *
 congr 1
 generalize x * 2 ^ p = y at *
 omega
theorem up_hi {x p : Nat} (hp : p ≤ 64) : (x : Int) / 2 ^ (64 - p) = ((x * 2 ^ p / B : Nat) : Int) := by
 rw [← B_part hp, Nat.mul_div_mul_right _ _ (Nat.pow_pos (by omega)), pow_cast]; rfl
theorem up_hi_lt {x p : Nat} (hx : x < B) : x * 2 ^ p / B < 2 ^ p := by
 rw [Nat.div_lt_iff_lt_mul B_pos, Nat.mul_comm (2 ^ p)]
 exact Nat.mul_lt_mul_of_pos_right hx (Nat.pow_pos (by omega))
theorem up_gen {β v z l h P y a : Nat} (e : β * h + l = y) (hv : v + z * P = a) : v + (l + z) * P + h * (P * β) = a + y * P := by
 rw [← e]; grind
theorem up_fin {a x P Q t : Nat} : a * (Q * t) + x * t * (Q * P) = (a + x * P) * (Q * t) := by grind
theorem shiftUp_any {w : World} {ao : Option Addr} {n c b o : Nat} {f : Nat → Nat} (S : Sl w ao n c b o f) (hn : n ≤ 1000) (s q p : Nat) (hsq : s = 64 * q + p) (hp : p < 64) (hq : q ≤ 1000) :
 Calls Tryz.prog 96 #[.slice ao n c, .int .i64 (s : Int)] w fun e w' => e = .returned (.slice (some ⟨w.heap.size, 0, none⟩) (q + n + 1) (q + n + 1)) ∧ Below w.heap.size w w' ∧
  ∃ F, Row w' w.heap.size (q + n + 1) F ∧ V F (q + n + 1) = V f n * 2 ^ s := by
 have hmk := run_make_row' (P := Tryz.prog) 102 22 (.int .u64 0) 8 und_nat info_u64 rfl .i64 .i64 (q + n + 1) (by omega) (by omega)
 simp only [Int.natCast_add, Int.natCast_one] at hmk
 have e1 : (s : Int) / 64 = (q : Int) := by omega
 have e2 : (s : Int) % 64 = (p : Int) := by omega
 have HS : Hid (Sl w ao n c b o f) := S
 have HQ : Hid (s = 64 * q + p) := hsq
 clear S hsq
 go_enter Tryz.func96, Tryz.ntmps96
 go_wp2
 simp only [e2]
 go_loopw [22] (fun i wr => ∃ (k : Nat) (F' : Nat → Nat), i = .int .i64 (k : Int) ∧ k ≤ n ∧ Row wr w.heap.size (q + n + 1) F' ∧ Below w.heap.size w wr ∧ (∀ j, q + k < j → F' j = 0) ∧ F' (q + k) < 2 ^ p ∧ V F' (q + k + 1) = V f k * 2 ^ s) (fun i _ => n - (intOf i).toNat)
 case atStart => exact ⟨0, fun _ => 0, rfl, Nat.zero_le _, made_row _ _, (Below.refl _ _).alloc (Nat.le_refl _) _, fun _ _ => rfl, Nat.pow_pos (by omega), by rw [V_nought, V_zero, Nat.zero_mul]⟩
 case round =>
  obtain ⟨k, F', rfl, hk, R', hbl, hz, hlo, hv⟩ := hrel
  have HZ : Hid (∀ j, q + k < j → F' j = 0) := hz
  have HV : Hid (V F' (q + k + 1) = V f k * 2 ^ s) := hv
  have HB : Hid (Below w.heap.size w wr) := hbl
  have HR : Hid (Row wr w.heap.size (q + n + 1) F') := R'
  have HL : Hid (F' (q + k) < 2 ^ p) := hlo
  clear hz hv hlo
  by_cases c1 : k < n
  · obtain rfl := HS.out.addr (by omega)
    have hc := (HS.out.below hbl).cell k c1
    have cz := R'.row.cell (i := q + k) (by omega)
    have fz := R'.row.frozen (q + k)
    have cz1 := R'.row.cell (i := q + k + 1) (by omega)
    have fz1 := R'.row.frozen (q + k + 1)
    rw [HZ.out (q + k + 1) (by omega)] at cz1
    clear hbl R'
    go_wp2
    go_region
    all_goals
     go_wp2
     go_roundw
     case rel =>
      have u1 := up_lo (x := f k) (Nat.le_of_lt hp) HL.out
      have u2 := up_hi (x := f k) (Nat.le_of_lt hp)
      have u3 := up_room (x := f k) (Nat.le_of_lt hp) HL.out
      have u4 := up_hi_lt (p := p) (HS.out.ws k)
      rw [u1, u2]
      have hB2 : f k * 2 ^ p / B < B := Nat.lt_trans u4 (by have : (2 : Nat) ^ p < 2 ^ 64 := Nat.pow_lt_pow_right (by omega) hp; exact this)
      refine ⟨k + 1, put (put F' (q + k) (f k * 2 ^ p % B + F' (q + k))) (q + k + 1) (f k * 2 ^ p / B), by go_num, by omega, ((HR.out.set (q + k) u3).set (q + k + 1) hB2).drew, ((HB.out.setCell (Nat.le_refl _) _).setCell (Nat.le_refl _) _).drew, ?_, ?_, ?_⟩
      · intro j hj
        rw [put_ne (by omega), put_ne (by omega)]
        exact HZ.out j (by omega)
      · rw [show q + (k + 1) = q + k + 1 by omega, put_at]; exact u4
      · rw [show q + (k + 1) + 1 = q + k + 1 + 1 by omega, V_succ, V_put_low (Nat.le_refl _), put_at, V_succ, V_put_low (Nat.le_refl _), put_at, V_succ f k]
        have hv := HV.out
        rw [V_succ] at hv
        rw [Nat.pow_succ, up_gen (Nat.div_add_mod (f k * 2 ^ p) B) hv, HQ.out, two_B, Nat.pow_add]
        exact up_fin
     case measure => simp [intOf]; omega
  · obtain rfl : k = n := by omega
    clear R' hbl
    go_wp2
    go_ret
    exact ⟨rfl, HB.out, F', HR.out, HV.out⟩
theorem nctz_odd {y : Nat} (h0 : y ≠ 0) (h : y < B) : ∃ j, y = 2 ^ Lib.ctz 64 y * (2 * j + 1) ∧ Lib.ctz 64 y < 64 := by
 obtain ⟨m, e, hk⟩ := Lib.ctzFrom_spec 64 y (by omega) h
 refine ⟨m, ?_, ?_⟩
 · unfold Lib.ctz; rw [if_neg h0]; exact e
 · unfold Lib.ctz; rw [if_neg h0]; exact hk
theorem odd_gen {b k x r t j : Nat} {u : Nat} (hx : x = 2 ^ t * (2 * j + 1)) (hb : b = 2 * u * 2 ^ t) : x * k + r * (k * b) = k * 2 ^ t * (2 * (j + r * u) + 1) := by
 rw [hx, hb]; grind
theorem V_odd {f : Nat → Nat} (hf : Ws f) {n k : Nat} (hk : k < n) (hz : ∀ i, i < k → f i = 0) (h0 : f k ≠ 0) : ∃ j, V f n = 2 ^ (64 * k + Lib.ctz 64 (f k)) * (2 * j + 1) := by
 obtain ⟨j, e, ht⟩ := nctz_odd h0 (hf k)
 have e1 : V f k = 0 := by rw [V_congr (g := fun _ => 0) hz, V_nought]
 have s := V_split f (k + 1) (n - (k + 1))
 rw [show k + 1 + (n - (k + 1)) = n by omega, V_succ, e1, Nat.zero_add, Nat.pow_succ] at s
 refine ⟨j + V (fun i => f (k + 1 + i)) (n - (k + 1)) * 2 ^ (63 - Lib.ctz 64 (f k)), ?_⟩
 rw [s, two_B]
 refine odd_gen e ?_
 rw [Nat.mul_comm 2, ← Nat.pow_succ, ← Nat.pow_add, show 63 - Lib.ctz 64 (f k) + 1 + Lib.ctz 64 (f k) = 64 by omega]
 rfl
theorem odd_mod {v z j s : Nat} (h : v = 2 ^ z * (2 * j + 1)) : (z < s) ↔ v % 2 ^ s ≠ 0 := by
 constructor
 · intro hlt e
   obtain ⟨c, hc⟩ := Nat.dvd_of_mod_eq_zero e
   rw [h, show s = z + 1 + (s - z - 1) by omega, Nat.pow_add, Nat.pow_succ, Nat.mul_assoc, Nat.mul_assoc] at hc
   have := Nat.eq_of_mul_eq_mul_left (Nat.pow_pos (by omega)) hc
   omega
 · intro hne
   rcases Nat.lt_or_ge z s with q | q
   · exact q
   · exfalso
     apply hne
     rw [h, show z = s + (z - s) by omega, Nat.pow_add, Nat.mul_assoc]
     exact Nat.mul_mod_right _ _
theorem zeros_any {w : World} (hT : Tab w) {ao : Option Addr} {n c b o : Nat} {f : Nat → Nat} (S : Sl w ao n c b o f) (hn : n ≤ 1000) (h0 : V f n ≠ 0) :
 Calls Tryz.prog 146 #[.slice ao n c] w fun e w' => ∃ z j : Nat, e = .returned (.int .i64 (z : Int)) ∧ V f n = 2 ^ z * (2 * j + 1) ∧ z ≤ 64 * n ∧ w' = w := by
 have HS : Hid (Sl w ao n c b o f) := S
 have H0 : Hid (V f n ≠ 0) := h0
 clear S h0
 go_enter Tryz.func146, Tryz.ntmps146
 go_wp2
 go_loop [7] (fun i => ∃ k : Nat, i = .int .i64 (k : Int) ∧ k ≤ n ∧ ∀ i, i < k → f i = 0) (fun i => n - (intOf i).toNat)
 case atStart => exact ⟨0, rfl, Nat.zero_le _, fun i hi => absurd hi (by omega)⟩
 case round =>
  obtain ⟨k, rfl, hk, hz⟩ := hrel
  have HZ : Hid (∀ i, i < k → f i = 0) := hz
  clear hz
  by_cases c1 : k < n
  · obtain rfl := HS.out.addr (by omega)
    have hc := HS.out.cell k c1
    by_cases c2 : f k = 0
    · have HC : Hid (f k = 0) := c2
      rw [c2] at hc
      clear c2
      go_wp2
      go_round
      case rel =>
       refine ⟨k + 1, by go_num, by omega, fun i hi => ?_⟩
       by_cases q : i = k
       · rw [q]; exact HC.out
       · exact HZ.out i (by omega)
      case measure => simp [intOf]; omega
    · have c2' : (((f k : Nat) : Int) == 0) = false := beq_eq_false_iff_ne.mpr (by omega)
      obtain ⟨j, ej⟩ := V_odd HS.out.ws c1 HZ.out c2
      have hc64 := (nctz_odd c2 (HS.out.ws k)).choose_spec.2
      have HJ : Hid (V f n = 2 ^ (64 * k + Lib.ctz 64 (f k)) * (2 * j + 1)) := ej
      have hw : Word ((f k : Nat) : Int) := ⟨by omega, by have := HS.out.ws k; unfold B at this; omega⟩
      have T := tz64_any ((f k : Nat) : Int) hw w hT
      have ec : ctzW ((f k : Nat) : Int) = ((Lib.ctz 64 (f k) : Nat) : Int) := by unfold ctzW; rw [Int.toNat_natCast]
      rw [ec] at T
      clear c2 ej ec
      generalize Lib.ctz 64 (f k) = t at *
      go_wp2_with fail
      refine T.mono ?_
      rintro e wa ⟨rfl, rfl⟩
      go_wp2
      go_ret
      refine ⟨64 * k + t, j, ?_, HJ.out, by omega, rfl⟩
      show Ending.returned (Value.int .i64 _) = _
      congr 2
      push_cast
      omega
  · exfalso
    have e : k = n := by omega
    apply H0.out
    rw [V_congr (g := fun _ => 0) (fun i hi => HZ.out i (by omega)), V_nought]
theorem down_gen {b t a x r h c P : Nat} (h1 : x * c = b * h + r) (hB : b = t * c) (hp : 0 < t) : (a + x * (P * b)) / t = a / t + r * P + h * (P * b) := by
 have e1 : x * (P * b) = t * (x * c * P) := by rw [hB]; grind
 rw [e1, Nat.add_mul_div_left _ _ hp, h1]
 grind
theorem down_fin {v x r P h b : Nat} : v + (r + x) * P + h * (P * b) = v + x * P + r * P + h * (P * b) := by grind
theorem shiftDown_any {w : World} (hT : Tab w) {ao : Option Addr} {n c b o : Nat} {f : Nat → Nat} (S : Sl w ao n c b o f) (hn : n ≤ 1000) (s q p : Nat) (hsq : s = 64 * q + p) (hp : p < 64) (hqn : q < n) (h0 : V f n ≠ 0) :
 Calls Tryz.prog 135 #[.slice ao n c, .int .i64 (s : Int)] w fun e w' => e = .returned (.tuple #[.slice (some ⟨w.heap.size, 0, none⟩) (n - q) (n - q), .bool (decide (V f n % 2 ^ s ≠ 0))]) ∧ Below w.heap.size w w' ∧
  ∃ F, Row w' w.heap.size (n - q) F ∧ V F (n - q) = V f n / 2 ^ s := by
 have hmk := run_make_row' (P := Tryz.prog) 102 22 (.int .u64 0) 8 und_nat info_u64 rfl .i64 .i64 (n - q) (by omega) (by omega)
 rw [show ((n - q : Nat) : Int) = (n : Int) - (q : Int) by omega] at hmk
 have e1 : (s : Int) / 64 = (q : Int) := by omega
 have e2 : (s : Int) % 64 = (p : Int) := by omega
 have HS : Hid (Sl w ao n c b o f) := S
 have HQ : Hid (s = 64 * q + p) := hsq
 have H0 : Hid (V f n ≠ 0) := h0
 have hss : s ≤ 100000 := by omega
 clear S hsq h0
 go_enter Tryz.func135, Tryz.ntmps135
 go_wp2
 simp only [e2]
 go_loopw [28] (fun i wr => ∃ (k : Nat) (F' : Nat → Nat), i = .int .i64 (k : Int) ∧ k ≤ n - q ∧ Row wr w.heap.size (n - q) F' ∧ Below w.heap.size w wr ∧ (∀ j, k ≤ j → F' j = 0) ∧ (k = 0 ∨ F' (k - 1) < 2 ^ (64 - p)) ∧ V F' k = V (fun i => f (q + i)) k / 2 ^ p) (fun i _ => n - q - (intOf i).toNat)
 case atStart => exact ⟨0, fun _ => 0, rfl, Nat.zero_le _, made_row _ _, (Below.refl _ _).alloc (Nat.le_refl _) _, fun _ _ => rfl, Or.inl rfl, by rw [V_zero, V_zero, Nat.zero_div]⟩
 case round =>
  obtain ⟨k, F', rfl, hk, R', hbl, hz, hlo, hv⟩ := hrel
  have HZ : Hid (∀ j, k ≤ j → F' j = 0) := hz
  have HV : Hid (V F' k = V (fun i => f (q + i)) k / 2 ^ p) := hv
  have HB : Hid (Below w.heap.size w wr) := hbl
  have HR : Hid (Row wr w.heap.size (n - q) F') := R'
  have HL : Hid (k = 0 ∨ F' (k - 1) < 2 ^ (64 - p)) := hlo
  clear hz hv hlo
  by_cases c1 : k < n - q
  · obtain rfl := HS.out.addr (by omega)
    have hc := (HS.out.below hbl).cell (q + k) (by omega)
    have cz := R'.row.cell (i := k) c1
    have fz := R'.row.frozen k
    by_cases c2 : k = 0
    · subst c2
      rw [Nat.add_zero] at hc
      clear hbl R'
      go_wp2
      go_roundw
      case rel =>
       have d1 : ((f q : Nat) : Int) / 2 ^ p = ((f q / 2 ^ p : Nat) : Int) := by rw [pow_cast]; rfl
       have d2 : f q / 2 ^ p < 2 ^ (64 - p) := by
        rw [Nat.div_lt_iff_lt_mul (Nat.pow_pos (by omega)), B_part (Nat.le_of_lt hp)]; exact HS.out.ws q
       have d3 : f q / 2 ^ p < B := Nat.lt_of_le_of_lt (Nat.div_le_self _ _) (HS.out.ws q)
       rw [d1]
       refine ⟨1, put F' 0 (f q / 2 ^ p), rfl, by omega, HR.out.set 0 d3, HB.out.setCell (Nat.le_refl _) _, fun j hj => ?_, Or.inr d2, ?_⟩
       · rw [put_ne (by omega)]; exact HZ.out j (by omega)
       · rw [V_succ, V_succ, V_zero, V_zero, put_at, Nat.pow_zero, Nat.mul_one, Nat.mul_one, Nat.zero_add, Nat.zero_add, Nat.add_zero]
      case measure => simp [intOf]; omega
    · have cz1 := R'.row.cell (i := k - 1) (by omega)
      have fz1 := R'.row.frozen (k - 1)
      have c3 : (0 : Int) < (k : Int) := by omega
      have hbk := HS.out.blk (by omega)
      have nb1 : ¬ (w.heap.size = b) := by omega
      have nb2 : ¬ (b = w.heap.size) := by omega
      have nk1 : ¬ (k = k - 1) := by omega
      have nk2 : ¬ (k - 1 = k) := by omega
      clear hbl R' hbk
      go_wp2
      go_region
      all_goals
       go_wp2
       go_roundw
       case rel =>
        obtain ⟨kk, hkk⟩ : ∃ kk, k = kk + 1 := ⟨k - 1, by omega⟩
        subst hkk
        rw [Nat.add_sub_cancel] at *
        have hlo := HL.out.resolve_left (by omega)
        have d1 : ((f (q + (kk + 1)) : Nat) : Int) / 2 ^ p = ((f (q + (kk + 1)) / 2 ^ p : Nat) : Int) := by rw [pow_cast]; rfl
        have d2 : f (q + (kk + 1)) / 2 ^ p < 2 ^ (64 - p) := by
         rw [Nat.div_lt_iff_lt_mul (Nat.pow_pos (by omega)), B_part (Nat.le_of_lt hp)]; exact HS.out.ws _
        have d3 : f (q + (kk + 1)) / 2 ^ p < B := Nat.lt_of_le_of_lt (Nat.div_le_self _ _) (HS.out.ws _)
        have u1 := up_lo (x := f (q + (kk + 1))) (p := 64 - p) (by omega) hlo
        have u3 := up_room (x := f (q + (kk + 1))) (p := 64 - p) (by omega) hlo
        have bp : B = 2 ^ p * 2 ^ (64 - p) := by rw [Nat.mul_comm, B_part (Nat.le_of_lt hp)]
        have hh : f (q + (kk + 1)) * 2 ^ (64 - p) / B = f (q + (kk + 1)) / 2 ^ p := by rw [bp, Nat.mul_div_mul_right _ _ (Nat.pow_pos (by omega))]
        have dg := down_gen (a := V (fun i => f (q + i)) (kk + 1)) (P := B ^ kk) (Nat.div_add_mod (f (q + (kk + 1)) * 2 ^ (64 - p)) B).symm bp (Nat.pow_pos (by omega))
        rw [hh] at dg
        rw [d1, u1]
        refine ⟨kk + 1 + 1, put (put F' (kk + 1) (f (q + (kk + 1)) / 2 ^ p)) kk (f (q + (kk + 1)) * 2 ^ (64 - p) % B + F' kk), by go_num, by omega, ((HR.out.set (kk + 1) d3).set kk u3).drew, ((HB.out.setCell (Nat.le_refl _) _).setCell (Nat.le_refl _) _).drew, fun j hj => ?_, Or.inr ?_, ?_⟩
        · rw [put_ne (by omega), put_ne (by omega)]; exact HZ.out j (by omega)
        · rw [Nat.add_sub_cancel, put_ne (by omega), put_at]; exact d2
        · have hv := HV.out
          rw [V_succ F'] at hv
          rw [V_succ, put_ne (by omega), put_at, V_succ, V_put_low (Nat.le_refl _), V_put_low (by omega), put_at, V_succ (fun i => f (q + i)) (kk + 1), Nat.pow_succ, dg, ← hv]
          exact down_fin
       case measure => simp [intOf]; omega
  · obtain rfl : k = n - q := by omega
    have Z := zeros_any (hT.next hbl) (HS.out.below hbl) hn H0.out
    clear R' hbl
    go_wp2_with fail
    refine Z.mono ?_
    rintro e wa ⟨z, j, rfl, hzj, hzn, rfl⟩
    have om := odd_mod (s := s) hzj
    have HD : Hid (decide ((z : Int) < (s : Int)) = decide (V f n % 2 ^ s ≠ 0)) := by
     rw [Bool.eq_iff_iff, decide_eq_true_iff, decide_eq_true_iff]
     exact ⟨fun h => om.mp (by omega), fun h => by have := om.mpr h; omega⟩
    clear hzj om
    go_wp2
    refine bodyPost_ret (v := .tuple #[.slice (some ⟨w.heap.size, 0, none⟩) (n - q) (n - q), .bool (decide ((z : Int) < (s : Int)))]) (by simp [results, Tryz.results135, go_sem]) rfl ⟨by rw [HD.out], HB.out, F', HR.out, ?_⟩
    have e := V_split f q (n - q)
    rw [show q + (n - q) = n by omega] at e
    rw [HV.out, HQ.out, two_B, ← Nat.div_div_eq_div_mul, e, Nat.add_mul_div_right _ _ (Bp_pos q), Nat.div_eq_of_lt (V_lt HS.out.ws q), Nat.zero_add]
end Go.Proofs.YtjagnfddmlkalaaGreatDoor
