/-
  What the calls of math/bits.Div64 and wide.divide answer: the quotient and what is left, for all words (Div64: the high word below the divisor; divide: the divisor not 0); nothing that was there turns.
-/
import Derived.Test.YtmbhmiidelcieaaDoorDiv2
import Derived.RegionTactic
import Derived.ChangeAlike
import Derived.BigRegion
namespace Go.Proofs.YtmbhmiidelcieaaDoor
open Go.RowKit

/-- The quotient of a number of two words by a word, and what is left. -/
def dvQ (hi lo y : Int) : Int := (hi * 18446744073709551616 + lo) / y
def dvR (hi lo y : Int) : Int := (hi * 18446744073709551616 + lo) % y

theorem dvR_word {hi lo y : Int} (h3 : Word y) (hy : 0 < y) : Word (dvR hi lo y) ∧ dvR hi lo y < y := by
  have a := Int.emod_nonneg (hi * 18446744073709551616 + lo) (b := y) (by omega)
  have b := Int.emod_lt_of_pos (hi * 18446744073709551616 + lo) hy
  have c := h3.2
  exact ⟨⟨a, Int.lt_trans b c⟩, b⟩
theorem dvQ_word {hi lo y : Int} (h1 : Word hi) (h2 : Word lo) (hlt : hi < y) : Word (dvQ hi lo y) := by
  have a := h1.1; have b := h2.1; have c := h2.2
  exact ⟨Int.ediv_nonneg (by omega) (by omega), Int.ediv_lt_of_lt_mul (by omega) (by omega)⟩

set_option maxHeartbeats 1000000 in
theorem div64_zero (lo y : Int) (h2 : Word lo) (h3 : Word y) (hy : 0 < y) (w : World) :
    Calls Tryd.prog 42 #[.int .u64 0, .int .u64 lo, .int .u64 y] w fun e w' => e = .returned (.tuple #[.int .u64 (dvQ 0 lo y), .int .u64 (dvR 0 lo y)]) ∧ Below w.heap.size w w' := by
  obtain ⟨a1, a2⟩ := h2
  obtain ⟨c1, c2⟩ := h3
  have hy0 : (y == 0) = false := by simp; omega
  have d1 : 0 ≤ lo / y := Int.ediv_nonneg a1 c1
  have d2 : lo / y ≤ lo := Int.ediv_le_self _ a1
  go_enter Tryd.func42, Tryd.ntmps42
  go_wp2
  go_region
  all_goals
    go_wp2
    go_ret2
    exact ⟨ret_ww (by unfold dvQ; rw [Int.zero_mul, Int.zero_add]) (by unfold dvR; rw [Int.zero_mul, Int.zero_add]), (Below.refl _ _).drew⟩

theorem div64_any (hi lo y : Int) (h1 : Word hi) (h2 : Word lo) (h3 : Word y) (hlt : hi < y) (w : World) :
    Calls Tryd.prog 42 #[.int .u64 hi, .int .u64 lo, .int .u64 y] w fun e w' => e = .returned (.tuple #[.int .u64 (dvQ hi lo y), .int .u64 (dvR hi lo y)]) ∧ Below w.heap.size w w' := by
  have hi0 := h1.1
  by_cases z : hi = 0
  · subst z; exact div64_zero lo y h2 h3 hlt w
  have hz : (hi == 0) = false := by simp; omega
  have hy0 : (y == 0) = false := by simp; omega
  obtain ⟨n, b1, b2, b3, b4⟩ := blen_bounds y (by omega) h3.2
  obtain ⟨U, L, Y, e1, e4, e5, f1, f2, f3, f4, f5, f6, f7, f8⟩ := norm_setup h1 h2 hlt b2 b3 b4
  have hS : (0 : Int) < 2 ^ (63 - n) := Int.pow_pos (by omega)
  have D1 : Divd U (L / 4294967296) Y (Y / 4294967296) (Y % 4294967296) := ⟨by omega, by omega, by omega, by omega, by omega, f4, f5, by omega, by omega⟩
  have s1 := D1.start
  have r1 := D1.rd_lt
  have q1 := D1.eq
  have t1 := D1.qd_lt
  have t1' := D1.qd_nonneg
  have D2 : Divd (rd U (L / 4294967296) Y) (L % 4294967296) Y (Y / 4294967296) (Y % 4294967296) := ⟨by omega, by omega, by omega, by omega, by omega, r1.1, r1.2, by omega, by omega⟩
  have s2 := D2.start
  have r2 := D2.rd_lt
  have q2 := D2.eq
  have t2 := D2.qd_lt
  have t2' := D2.qd_nonneg
  obtain ⟨g1, g2⟩ := div_whole hS (by omega : 0 < y) f1 f8 (by omega : L = L / 4294967296 * 4294967296 + L % 4294967296) q1 q2 r2.1 r2.2
  have z1 : 0 ≤ U / (Y / 4294967296) * (Y / 4294967296) := Int.mul_nonneg (by omega) (by omega)
  have z2 : 0 ≤ rd U (L / 4294967296) Y / (Y / 4294967296) * (Y / 4294967296) := Int.mul_nonneg (by omega) (by omega)
  have core := div64_core hi lo y U L Y (Y / 4294967296) (Y % 4294967296) (L / 4294967296) (L % 4294967296) (U / (Y / 4294967296)) (U / (Y / 4294967296) * (Y / 4294967296)) (qd U (L / 4294967296) Y) (rd U (L / 4294967296) Y)
    (rd U (L / 4294967296) Y / (Y / 4294967296)) (rd U (L / 4294967296) Y / (Y / 4294967296) * (Y / 4294967296)) (qd (rd U (L / 4294967296) Y) (L % 4294967296) Y) (rd (rd U (L / 4294967296) Y) (L % 4294967296) Y) n w
    hi0 h2.1 h3 hlt hz hy0 b1 b2 e1 e4 e5 rfl (mask_u64 ⟨by omega, f3⟩) rfl (mask_u64 ⟨f6, f7⟩) f4 (by omega) (by omega) (by omega) (by omega) (by omega) (by omega) (by omega) f6
    rfl rfl (by omega) (by omega) (by omega) (by omega) (by omega) (by omega) D1 rfl (by omega)
    (by simp only [IntKind.wrap_u64]; generalize qd U (L / 4294967296) Y * Y = M at *; omega)
    (by omega) rfl rfl (by omega) (by omega) (by omega) (by omega) (by omega) (by omega) D2 rfl (by omega)
    (by simp only [IntKind.wrap_u64]; generalize qd (rd U (L / 4294967296) Y) (L % 4294967296) Y * Y = M at *; omega)
    (by omega) (by omega) (by omega) (by omega) (by omega) (by omega)
  refine core.mono ?_
  rintro e w' ⟨rfl, rfl⟩
  exact ⟨ret_ww g1 g2, Below.refl _ _⟩

set_option maxHeartbeats 1000000 in
theorem wdivide_any (ah al b : Int) (h1 : Word ah) (h2 : Word al) (h3 : Word b) (hb : 0 < b) (w : World) :
    Calls Tryd.prog 31 #[.agg #[.int .u64 ah, .int .u64 al], .int .u64 b] w fun e w' => e = .returned (.tuple #[.agg #[.int .u64 (ah / b), .int .u64 (dvQ (ah % b) al b)], .int .u64 (dvR (ah % b) al b)]) ∧ Below w.heap.size w w' := by
  have a1 := h1.1
  have d1 : 0 ≤ ah / b := Int.ediv_nonneg a1 (by omega)
  have d2 : ah / b ≤ ah := Int.ediv_le_self _ a1
  have m1 := Int.emod_nonneg ah (b := b) (by omega)
  have m2 := Int.emod_lt_of_pos ah hb
  have hz : (b == 0) = false := by simp; omega
  have etd : IntKind.u64.wrap (ah.tdiv b) = ah / b := by
    have l := h1.2
    rw [Int.tdiv_eq_ediv_of_nonneg a1, IntKind.wrap_u64]; omega
  go_enter Tryd.func31, Tryd.ntmps31
  go_wp2
  go_region
  all_goals
    go_wp2_with (go_at_call 42; refine (div64_any (ah % b) al b ⟨m1, Int.lt_trans m2 h3.2⟩ h2 h3 m2 _).mono ?_; rintro e wa ⟨rfl, hba⟩; obtain ⟨hca, hfa⟩ := bcell hba; have hza := hba.size; simp at hca hfa hza; have q0 : w.heap.size < wa.heap.size := (by omega); have q1 : w.heap.size + 1 < wa.heap.size := (by omega))
    refine bodyPost_ret (v := .tuple #[.agg #[.int .u64 (ah / b), .int .u64 (dvQ (ah % b) al b)], .int .u64 (dvR (ah % b) al b)]) (by simp [results, Tryd.results31, go_sem, hca]) rfl ⟨rfl, ?_⟩
    exact ((((((Below.refl _ _).alloc (Nat.le_refl _) _).alloc (by simp) _).drew.trans (hba.mono (by simp; omega))).setCell (by simp) _).setCell (by simp) _)

end Go.Proofs.YtmbhmiidelcieaaDoor
