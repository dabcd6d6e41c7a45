/-
  Holds: IvN.
-/
import Derived.Test.YtdfefjcobeopbaaGreatDoorRows
import Derived.Laws.Externs
import Derived.WalkKit
import Derived.WalkSpells
import Derived.WalkLawsBesides
import Derived.Lib.Mul64
import Derived.Stop.Asserts
import Derived.RowKitTokens
import Derived.Lib.Strings
import Derived.Lib.BufferWrite
import Derived.Deep.OwnRows
import Derived.Deep.RegionHeld3
import Derived.BigQuiet
import Derived.Lib.ConvBytes
import Derived.Laws.CopyOwn
import Derived.Lib.TrailingZeros
import Derived.Lib.ItoaNum
import Derived.Deep.LoopGhost
import Derived.Test.YtdfefjcobeopbaaGreatDoorKb9
import Derived.Test.YtdfefjcobeopbaaGreatDoorKb10
set_option maxRecDepth 100000
set_option maxHeartbeats 4000000
namespace Go.Proofs.YtdfefjcobeopbaaGreatDoor
open Go.RowKit
def Fs (f T : Nat) (L : Int) : Prop := (f = 23 ∧ T = 255 ∧ L = -149) ∨ (f = 52 ∧ T = 2047 ∧ L = -1074)
def vlF (f : Nat) (L : Int) (m : Nat) : Nat := fv (mt f m) (xp f L m)
def hiF (f : Nat) (L : Int) (m : Nat) : Nat := fv (2 * mt f m + 1) (xp f L m - 1)
def loF (f : Nat) (L : Int) : Nat → Nat
 | 0 => 0
 | k + 1 => hiF f L k
theorem mt_lt {f T : Nat} {L : Int} (h : Fs f T L) (m : Nat) : mt f m < 2 ^ 53 := by
 have g := (parts_good f L m).1
 rcases h with ⟨rfl, _, _⟩ | ⟨rfl, _, _⟩
 · exact Nat.lt_of_lt_of_le g (by decide)
 · exact g
theorem xp_in {f T : Nat} {L : Int} (h : Fs f T L) {m : Nat} (hm : m < T * 2 ^ f) : -1074 ≤ xp f L m ∧ xp f L m ≤ 971 := by
 have g := (parts_good f L m).2.1
 have q : m / 2 ^ f < T := by rw [Nat.div_lt_iff_lt_mul (Nat.two_pow_pos f)]; exact hm
 unfold xp at g ⊢
 generalize m / 2 ^ f = d at *
 rcases h with ⟨rfl, rfl, rfl⟩ | ⟨rfl, rfl, rfl⟩ <;> (split at g <;> (split <;> omega))
theorem xp_mono (f : Nat) (L : Int) (m : Nat) : xp f L m ≤ xp f L (m + 1) ∧ xp f L (m + 1) ≤ xp f L m + 1 := by
 have q : m / 2 ^ f ≤ (m + 1) / 2 ^ f := Nat.div_le_div_right (Nat.le_succ m)
 have r : (m + 1) / 2 ^ f ≤ m / 2 ^ f + 1 := by
  rw [← Nat.add_div_right m (Nat.two_pow_pos f)]
  exact Nat.div_le_div_right (by have := Nat.two_pow_pos f; omega)
 unfold xp
 generalize m / 2 ^ f = a at *
 generalize (m + 1) / 2 ^ f = b at *
 split <;> split <;> omega
theorem fv_two {m : Nat} {e : Int} (h : -(R0 : Int) ≤ e - 1) : fv m e = fv (2 * m) (e - 1) := by
 have q := fv_up (m := m) (k := 1) h
 rw [show e - 1 + ((1 : Nat) : Int) = e by omega, Nat.pow_one, Nat.mul_comm] at q
 exact q
theorem r0_lt {e : Int} (h : -1074 ≤ e) : -(R0 : Int) ≤ e - 1 := by unfold R0; omega
def gF (f : Nat) (L : Int) (m : Nat) : Nat := fv 1 (xp f L m - 1)
theorem gF_pos (f : Nat) (L : Int) (m : Nat) : 0 < gF f L m := fv_pos (by decide)
theorem fv_mul (m : Nat) (e : Int) : fv m e = m * fv 1 e := by unfold fv; rw [Nat.one_mul, Nat.mul_assoc]
theorem mt_some {f m : Nat} (h0 : m ≠ 0) : 0 < mt f m := by
 unfold mt
 have := Nat.two_pow_pos f
 split <;> omega
theorem low_doc (f : Nat) (L : Int) (k : Nat) : mt f (k + 1) * 2 ^ (xp f L (k + 1) - xp f L k).toNat + mt f k = 2 * mt f k + 1 := by
 have q := (mt_succ f L k).dn (xp_mono f L k).1
 omega
theorem vl_pos {f : Nat} (L : Int) {m : Nat} (h0 : m ≠ 0) : 0 < vlF f L m := fv_pos (mt_some h0)
theorem vl_g {f T : Nat} {L : Int} (h : Fs f T L) {m : Nat} (hm : m < T * 2 ^ f) : vlF f L m = 2 * mt f m * gF f L m := by
 unfold vlF gF
 rw [fv_two (r0_lt (xp_in h hm).1), fv_mul]
theorem hi_g {f T : Nat} {L : Int} (h : Fs f T L) {m : Nat} (hm : m < T * 2 ^ f) : hiF f L m = vlF f L m + gF f L m := by
 rw [vl_g h hm]
 unfold hiF gF
 rw [fv_mul, Nat.add_mul, Nat.one_mul]
theorem vl_hi {f T : Nat} {L : Int} (h : Fs f T L) {m : Nat} (hm : m < T * 2 ^ f) : vlF f L m < hiF f L m := by
 have := hi_g h hm
 have := gF_pos f L m
 omega
theorem vl_zero (f : Nat) (L : Int) : vlF f L 0 = 0 := by
 unfold vlF
 rw [show mt f 0 = 0 by unfold mt; rw [Nat.zero_div, if_pos rfl], fv_zero]
end Go.Proofs.YtdfefjcobeopbaaGreatDoor
