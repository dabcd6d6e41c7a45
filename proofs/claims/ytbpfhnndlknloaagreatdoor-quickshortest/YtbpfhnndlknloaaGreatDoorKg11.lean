/-
  Holds: IvN.
-/
import Derived.Test.YtbpfhnndlknloaaGreatDoorRows
import Derived.Laws.Externs
import Derived.WalkKit
import Derived.WalkSpells
import Derived.WalkLawsBesides
import Derived.Lib.Mul64
import Derived.Stop.Asserts
import Derived.RowKitTokens
import Derived.Lib.Strings
import Derived.Lib.BufferWrite
import Derived.Deep.OwnRows
import Derived.Deep.RegionHeld3
import Derived.BigQuiet
import Derived.Lib.ConvBytes
import Derived.Laws.CopyOwn
import Derived.Lib.TrailingZeros
import Derived.Lib.ItoaNum
import Derived.Deep.LoopGhost
import Derived.Test.YtbpfhnndlknloaaGreatDoorKg9
import Derived.Test.YtbpfhnndlknloaaGreatDoorKg10
set_option maxRecDepth 100000
set_option maxHeartbeats 4000000
namespace Go.Proofs.YtbpfhnndlknloaaGreatDoor
open Go.RowKit
def Fs (f T : Nat) (L : Int) : Prop := (f = 23 ∧ T = 255 ∧ L = -149) ∨ (f = 52 ∧ T = 2047 ∧ L = -1074)
def vlF (f : Nat) (L : Int) (m : Nat) : Nat := fv (mt f m) (xp f L m)
def hiF (f : Nat) (L : Int) (m : Nat) : Nat := fv (2 * mt f m + 1) (xp f L m - 1)
def loF (f : Nat) (L : Int) : Nat → Nat
 | 0 => 0
 | k + 1 => hiF f L k
theorem mt_lt {f T : Nat} {L : Int} (h : Fs f T L) (m : Nat) : mt f m < 2 ^ 53 := by
 have g := (parts_good f L m).1
 rcases h with ⟨rfl, _, _⟩ | ⟨rfl, _, _⟩
 · exact Nat.lt_of_lt_of_le g (by decide)
 · exact g
theorem xp_in {f T : Nat} {L : Int} (h : Fs f T L) {m : Nat} (hm : m < T * 2 ^ f) : -1074 ≤ xp f L m ∧ xp f L m ≤ 971 := by
 have g := (parts_good f L m).2.1
 have q : m / 2 ^ f < T := by rw [Nat.div_lt_iff_lt_mul (Nat.two_pow_pos f)]; exact hm
 unfold xp at g ⊢
 generalize m / 2 ^ f = d at *
 rcases h with ⟨rfl, rfl, rfl⟩ | ⟨rfl, rfl, rfl⟩ <;> (split at g <;> (split <;> omega))
theorem xp_mono (f : Nat) (L : Int) (m : Nat) : xp f L m ≤ xp f L (m + 1) ∧ xp f L (m + 1) ≤ xp f L m + 1 := by
 have q : m / 2 ^ f ≤ (m + 1) / 2 ^ f := Nat.div_le_div_right (Nat.le_succ m)
 have r : (m + 1) / 2 ^ f ≤ m / 2 ^ f + 1 := by
  rw [← Nat.add_div_right m (Nat.two_pow_pos f)]
  exact Nat.div_le_div_right (by have := Nat.two_pow_pos f; omega)
 unfold xp
 generalize m / 2 ^ f = a at *
 generalize (m + 1) / 2 ^ f = b at *
 split <;> split <;> omega
theorem fv_eqv {m M : Nat} {e E : Int} (h : Eqv m e M E) (h1 : -(R0 : Int) ≤ e) (h2 : -(R0 : Int) ≤ E) : fv m e = fv M E := by
 have q := h.all (-(R0 : Int)) h1 h2
 unfold ev at q
 unfold fv
 rw [show e + (R0 : Int) = e - -(R0 : Int) by omega, show E + (R0 : Int) = E - -(R0 : Int) by omega, q]
theorem fv_two {m : Nat} {e : Int} (h : -(R0 : Int) ≤ e - 1) : fv m e = fv (2 * m) (e - 1) := by
 have q := fv_up (m := m) (k := 1) h
 rw [show e - 1 + ((1 : Nat) : Int) = e by omega, Nat.pow_one, Nat.mul_comm] at q
 exact q
theorem r0_lt {e : Int} (h : -1074 ≤ e) : -(R0 : Int) ≤ e - 1 := by unfold R0; omega
def gF (f : Nat) (L : Int) (m : Nat) : Nat := fv 1 (xp f L m - 1)
theorem gF_pos (f : Nat) (L : Int) (m : Nat) : 0 < gF f L m := fv_pos (by decide)
theorem fv_mul (m : Nat) (e : Int) : fv m e = m * fv 1 e := by unfold fv; rw [Nat.one_mul, Nat.mul_assoc]
theorem mt_some {f m : Nat} (h0 : m ≠ 0) : 0 < mt f m := by
 unfold mt
 have := Nat.two_pow_pos f
 split <;> omega
theorem low_doc (f : Nat) (L : Int) (k : Nat) : mt f (k + 1) * 2 ^ (xp f L (k + 1) - xp f L k).toNat + mt f k = 2 * mt f k + 1 := by
 have q := (mt_succ f L k).dn (xp_mono f L k).1
 omega
theorem vl_pos {f : Nat} (L : Int) {m : Nat} (h0 : m ≠ 0) : 0 < vlF f L m := fv_pos (mt_some h0)
theorem vl_g {f T : Nat} {L : Int} (h : Fs f T L) {m : Nat} (hm : m < T * 2 ^ f) : vlF f L m = 2 * mt f m * gF f L m := by
 unfold vlF gF
 rw [fv_two (r0_lt (xp_in h hm).1), fv_mul]
theorem hi_g {f T : Nat} {L : Int} (h : Fs f T L) {m : Nat} (hm : m < T * 2 ^ f) : hiF f L m = vlF f L m + gF f L m := by
 rw [vl_g h hm]
 unfold hiF gF
 rw [fv_mul, Nat.add_mul, Nat.one_mul]
theorem next_g {f T : Nat} {L : Int} (h : Fs f T L) {m : Nat} (hm : m < T * 2 ^ f) (hm1 : m + 1 < T * 2 ^ f) : vlF f L (m + 1) = vlF f L m + 2 * gF f L m := by
 have q := fv_eqv (mt_succ f L m) (by have := r0_lt (xp_in h hm).1; omega) (by have := r0_lt (xp_in h hm1).1; omega)
 unfold vlF
 rw [← q, fv_add, fv_two (m := 1) (r0_lt (xp_in h hm).1)]
 unfold gF
 rw [show 2 * 1 = 2 from rfl, fv_mul 2]
theorem lo_g {f T : Nat} {L : Int} (h : Fs f T L) {m : Nat} (hm1 : m + 1 < T * 2 ^ f) : loF f L (m + 1) + gF f L m = vlF f L (m + 1) := by
 have hm : m < T * 2 ^ f := by omega
 show hiF f L m + _ = _
 rw [hi_g h hm, next_g h hm hm1]
 omega
theorem lo_lt {f T : Nat} {L : Int} (h : Fs f T L) {m : Nat} (hm : m < T * 2 ^ f) (h0 : m ≠ 0) : loF f L m < vlF f L m := by
 obtain ⟨k, rfl⟩ : ∃ k, m = k + 1 := ⟨m - 1, by omega⟩
 have := lo_g h hm
 have := gF_pos f L k
 omega
theorem vl_hi {f T : Nat} {L : Int} (h : Fs f T L) {m : Nat} (hm : m < T * 2 ^ f) : vlF f L m < hiF f L m := by
 have := hi_g h hm
 have := gF_pos f L m
 omega
theorem digits_there {f T : Nat} {L : Int} (h : Fs f T L) {m N a : Nat} (hN : 2 ^ (f + 1) ≤ 10 ^ (N - 1)) (N0 : 1 ≤ N) (h0 : m ≠ 0) (hm : m < T * 2 ^ f) (ha : 10 ^ (a - 1) ≤ vlF f L m) :
 (loF f L m < vlF f L m / 10 ^ (a - N) * 10 ^ (a - N)) ∨ ((vlF f L m + (10 ^ (a - N) - 1)) / 10 ^ (a - N) * 10 ^ (a - N) < hiF f L m) := by
 obtain ⟨k, rfl⟩ : ∃ k, m = k + 1 := ⟨m - 1, by omega⟩
 have x1 := lo_lt h hm h0
 have x2 := vl_hi h hm
 have e1 := hi_g h hm
 have e2 := lo_g h hm
 have e3 := vl_g h hm
 have g0 := gF_pos f L (k + 1)
 have xm := xp_mono f L k
 have gd := parts_good f L (k + 1)
 have eq := low_doc f L k
 have gk : gF f L k = gF f L (k + 1) ∨ (2 ^ f ≤ mt f (k + 1) ∧ mt f (k + 1) ≤ 2 ^ f) := by
  by_cases c : xp f L (k + 1) = xp f L k
  · left; unfold gF; rw [c]
  · right
    have c1 : xp f L (k + 1) = xp f L k + 1 := by omega
    have gk := parts_good f L k
    rw [c1, show (xp f L k + 1 - xp f L k).toNat = 1 by omega, Nat.pow_one] at eq
    rcases gd.2.2 with q | q
    · refine ⟨q, ?_⟩
      have := gk.1
      rw [Nat.pow_succ] at this
      omega
    · have := gk.2.1
      omega
 generalize vlF f L (k + 1) = x at *
 generalize loF f L (k + 1) = lo at *
 generalize hiF f L (k + 1) = hi at *
 generalize gF f L (k + 1) = g at *
 generalize gF f L k = g' at *
 generalize mt f (k + 1) = M at *
 generalize hS : 10 ^ (a - N) = S at *
 have S0 : 0 < S := by rw [← hS]; exact Nat.pow_pos (by decide)
 have dm := Nat.div_add_mod x S
 have md := Nat.mod_lt x S0
 rcases Nat.eq_zero_or_pos (x % S) with z | z
 · left
   rw [Nat.mul_comm] at dm
   omega
 · have up : (x + (S - 1)) / S = x / S + 1 := by
    refine Nat.div_eq_of_lt_le ?_ ?_
    · rw [Nat.add_mul, Nat.one_mul, Nat.mul_comm]; omega
    · rw [Nat.add_mul, Nat.add_mul, Nat.one_mul, Nat.mul_comm]; omega
   rw [up, Nat.add_mul, Nat.one_mul, Nat.mul_comm (x / S) S]
   have S1 : S ≠ 1 := by intro c; rw [c, Nat.mod_one] at z; omega
   have aN : a - N + (N - 1) = a - 1 := by
    have : a - N ≠ 0 := by intro c; rw [c] at hS; exact S1 hS.symm
    omega
   have big : S * 2 ^ (f + 1) ≤ x := by
    refine Nat.le_trans (Nat.mul_le_mul_left S hN) (Nat.le_trans ?_ ha)
    rw [← hS, ← Nat.pow_add, aN]
    exact Nat.le_refl _
   have step : ∀ {M' : Nat}, M ≤ M' → S * 2 ^ (f + 1) ≤ 2 * M' * g := fun hM => by
    refine Nat.le_trans big ?_
    rw [e3]
    exact Nat.mul_le_mul_right g (Nat.mul_le_mul_left 2 hM)
   rcases gk with q | q
   · have s := gd.1
     have sg : S < 2 * g := by
      apply Nat.lt_of_not_le
      intro c
      have a1 : 2 * M * g < 2 ^ (f + 1) * S := by
       rw [show 2 * M * g = M * (2 * g) by rw [Nat.mul_comm 2 M, Nat.mul_assoc]]
       exact Nat.lt_of_le_of_lt (Nat.mul_le_mul_left M c) (Nat.mul_lt_mul_of_pos_right s S0)
      have a2 := step (Nat.le_refl M)
      rw [Nat.mul_comm (2 ^ (f + 1)) S] at a1
      omega
     omega
   · right
     have sg : S ≤ g := by
      have a2 := step q.2
      rw [Nat.mul_comm 2, ← Nat.pow_succ, Nat.mul_comm] at a2
      exact Nat.le_of_mul_le_mul_left a2 (Nat.two_pow_pos (f + 1))
     omega
end Go.Proofs.YtbpfhnndlknloaaGreatDoor
