/-
  Holds: VNatE.
-/
import Derived.Test.YtohhmobfmmeohaaGreatDoorRows
import Derived.Laws.Externs
import Derived.WalkKit
import Derived.WalkSpells
import Derived.WalkLawsBesides
import Derived.Lib.Mul64
import Derived.Deep.OwnRows
import Derived.Laws.CopyOwn
import Derived.BigQuiet
import Derived.Deep.RegionHeld3
import Derived.Lib.TrailingZeros
import Derived.Test.YtohhmobfmmeohaaGreatDoorKi14
import Derived.Test.YtohhmobfmmeohaaGreatDoorKi15
set_option maxRecDepth 100000
set_option maxHeartbeats 4000000
namespace Go.Proofs.YtohhmobfmmeohaaGreatDoor
open Go.RowKit
theorem B_pow (q : Nat) : B ^ q = 2 ^ (64 * q) := by
 rw [Nat.pow_mul]; rfl
theorem B_part {p : Nat} (hp : p ≤ 64) : 2 ^ (64 - p) * 2 ^ p = B := by rw [← Nat.pow_add, show 64 - p + p = 64 by omega]; rfl
theorem two_B (q p : Nat) : 2 ^ (64 * q + p) = B ^ q * 2 ^ p := by rw [Nat.pow_add, B_pow]
theorem up_room {x z p : Nat} (hp : p ≤ 64) (hz : z < 2 ^ p) : x * 2 ^ p % B + z < B := by
 have e : x * 2 ^ p % B = 2 ^ p * (x % 2 ^ (64 - p)) := by rw [← B_part hp, Nat.mul_mod_mul_right, Nat.mul_comm]
 have q : x % 2 ^ (64 - p) + 1 ≤ 2 ^ (64 - p) := Nat.mod_lt _ (Nat.pow_pos (by omega))
 have r := Nat.mul_le_mul_left (2 ^ p) q
 rw [Nat.mul_add, Nat.mul_comm (2 ^ p) (2 ^ (64 - p)), B_part hp] at r
 omega
theorem up_lo {x z p : Nat} (hp : p ≤ 64) (hz : z < 2 ^ p) : bits .or .u64 (z : Int) (IntKind.u64.wrap ((x : Int) * 2 ^ p)) = ((x * 2 ^ p % B + z : Nat) : Int) := by
 have hzB : z < 18446744073709551616 := Nat.lt_of_lt_of_le hz (by have : (2 : Nat) ^ p ≤ 2 ^ 64 := Nat.pow_le_pow_right (by omega) hp; exact this)
 have e : IntKind.u64.wrap ((x : Int) * 2 ^ p) = ((x * 2 ^ p % 18446744073709551616 : Nat) : Int) := by
  rw [IntKind.wrap_u64, pow_cast, ← Int.natCast_mul]; rfl
 have o := shl_or x z p (by omega) hz
 have r := up_room (x := x) hp hz
 rw [e, bits_or_u64_nat z _ hzB (Nat.mod_lt _ (by omega)), Nat.or_comm, o]
 unfold B at *
 congr 1
 generalize x * 2 ^ p = y at *
 omega
theorem up_hi {x p : Nat} (hp : p ≤ 64) : (x : Int) / 2 ^ (64 - p) = ((x * 2 ^ p / B : Nat) : Int) := by
 rw [← B_part hp, Nat.mul_div_mul_right _ _ (Nat.pow_pos (by omega)), pow_cast]; rfl
theorem up_hi_lt {x p : Nat} (hx : x < B) : x * 2 ^ p / B < 2 ^ p := by
 rw [Nat.div_lt_iff_lt_mul B_pos, Nat.mul_comm (2 ^ p)]
 exact Nat.mul_lt_mul_of_pos_right hx (Nat.pow_pos (by omega))
theorem up_gen {β v z l h P y a : Nat} (e : β * h + l = y) (hv : v + z * P = a) : v + (l + z) * P + h * (P * β) = a + y * P := by
 rw [← e]; grind
theorem up_fin {a x P Q t : Nat} : a * (Q * t) + x * t * (Q * P) = (a + x * P) * (Q * t) := by grind
theorem shiftUp_any {w : World} {ao : Option Addr} {n c b o : Nat} {f : Nat → Nat} (S : Sl w ao n c b o f) (hn : n ≤ 1000) (s q p : Nat) (hsq : s = 64 * q + p) (hp : p < 64) (hq : q ≤ 1000) :
 Calls Tryz.prog 89 #[.slice ao n c, .int .i64 (s : Int)] w fun e w' => e = .returned (.slice (some ⟨w.heap.size, 0, none⟩) (q + n + 1) (q + n + 1)) ∧ Below w.heap.size w w' ∧
  ∃ F, Row w' w.heap.size (q + n + 1) F ∧ V F (q + n + 1) = V f n * 2 ^ s := by
 have hmk := run_make_row' (P := Tryz.prog) 98 22 (.int .u64 0) 8 und_nat info_u64 rfl .i64 .i64 (q + n + 1) (by omega) (by omega)
 simp only [Int.natCast_add, Int.natCast_one] at hmk
 have e1 : (s : Int) / 64 = (q : Int) := by omega
 have e2 : (s : Int) % 64 = (p : Int) := by omega
 have HS : Hid (Sl w ao n c b o f) := S
 have HQ : Hid (s = 64 * q + p) := hsq
 clear S hsq
 go_enter Tryz.func89, Tryz.ntmps89
 go_wp2
 simp only [e2]
 go_loopw [22] (fun i wr => ∃ (k : Nat) (F' : Nat → Nat), i = .int .i64 (k : Int) ∧ k ≤ n ∧ Row wr w.heap.size (q + n + 1) F' ∧ Below w.heap.size w wr ∧ (∀ j, q + k < j → F' j = 0) ∧ F' (q + k) < 2 ^ p ∧ V F' (q + k + 1) = V f k * 2 ^ s) (fun i _ => n - (intOf i).toNat)
 case atStart => exact ⟨0, fun _ => 0, rfl, Nat.zero_le _, made_row _ _, (Below.refl _ _).alloc (Nat.le_refl _) _, fun _ _ => rfl, Nat.pow_pos (by omega), by rw [V_nought, V_zero, Nat.zero_mul]⟩
 case round =>
  obtain ⟨k, F', rfl, hk, R', hbl, hz, hlo, hv⟩ := hrel
  have HZ : Hid (∀ j, q + k < j → F' j = 0) := hz
  have HV : Hid (V F' (q + k + 1) = V f k * 2 ^ s) := hv
  have HB : Hid (Below w.heap.size w wr) := hbl
  have HR : Hid (Row wr w.heap.size (q + n + 1) F') := R'
  have HL : Hid (F' (q + k) < 2 ^ p) := hlo
  clear hz hv hlo
  by_cases c1 : k < n
  · obtain rfl := HS.out.addr (by omega)
    have hc := (HS.out.below hbl).cell k c1
    have cz := R'.row.cell (i := q + k) (by omega)
    have fz := R'.row.frozen (q + k)
    have cz1 := R'.row.cell (i := q + k + 1) (by omega)
    have fz1 := R'.row.frozen (q + k + 1)
    rw [HZ.out (q + k + 1) (by omega)] at cz1
    clear hbl R'
    go_wp2
    go_region
    all_goals
     go_wp2
     go_roundw
     case rel =>
      have u1 := up_lo (x := f k) (Nat.le_of_lt hp) HL.out
      have u2 := up_hi (x := f k) (Nat.le_of_lt hp)
      have u3 := up_room (x := f k) (Nat.le_of_lt hp) HL.out
      have u4 := up_hi_lt (p := p) (HS.out.ws k)
      rw [u1, u2]
      have hB2 : f k * 2 ^ p / B < B := Nat.lt_trans u4 (by have : (2 : Nat) ^ p < 2 ^ 64 := Nat.pow_lt_pow_right (by omega) hp; exact this)
      refine ⟨k + 1, put (put F' (q + k) (f k * 2 ^ p % B + F' (q + k))) (q + k + 1) (f k * 2 ^ p / B), by go_num, by omega, ((HR.out.set (q + k) u3).set (q + k + 1) hB2).drew, ((HB.out.setCell (Nat.le_refl _) _).setCell (Nat.le_refl _) _).drew, ?_, ?_, ?_⟩
      · intro j hj
        rw [put_ne (by omega), put_ne (by omega)]
        exact HZ.out j (by omega)
      · rw [show q + (k + 1) = q + k + 1 by omega, put_at]; exact u4
      · rw [show q + (k + 1) + 1 = q + k + 1 + 1 by omega, V_succ, V_put_low (Nat.le_refl _), put_at, V_succ, V_put_low (Nat.le_refl _), put_at, V_succ f k]
        have hv := HV.out
        rw [V_succ] at hv
        rw [Nat.pow_succ, up_gen (Nat.div_add_mod (f k * 2 ^ p) B) hv, HQ.out, two_B, Nat.pow_add]
        exact up_fin
     case measure => simp [intOf]; omega
  · obtain rfl : k = n := by omega
    clear R' hbl
    go_wp2
    go_ret
    exact ⟨rfl, HB.out, F', HR.out, HV.out⟩
end Go.Proofs.YtohhmobfmmeohaaGreatDoor
