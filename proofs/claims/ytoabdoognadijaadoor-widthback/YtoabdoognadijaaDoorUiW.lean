/-
  The document's products and sums of numbers of two words.
-/
import Derived.Test.YtoabdoognadijaaDoorChecked
import Derived.Laws.Externs
import Derived.WalkKit
import Derived.WalkSpells
import Derived.WalkLawsBesides
import Derived.Lib.Mul64
import Derived.Laws.Bits64b
import Derived.BigQuiet
import Derived.Deep.QuietTactic
import Derived.RegionTactic
import Derived.ChangeAlike
import Derived.BigRegion
import Derived.Deep.RegionHeld3
namespace Go.Proofs.YtoabdoognadijaaDoor
open Go.RowKit

/-- A word. -/
def Word (x : Int) : Prop := 0 ≤ x ∧ x < 18446744073709551616
/-- Sum of two words and a carry: the low word, the carry out. -/
def a3Lo (x y c : Int) : Int := (x + y + c) % 18446744073709551616
def a3C (x y c : Int) : Int := (x + y + c) / 18446744073709551616
/-- Sum and difference of two numbers of two words. -/
def sHi (ah al bh bl : Int) : Int := a3Lo ah bh (a3C al bl 0)
def sLo (al bl : Int) : Int := a3Lo al bl 0
def sOv (ah al bh bl : Int) : Bool := a3C ah bh (a3C al bl 0) != 0
/-- The product of two words: its two words. -/
def mHi (x y : Int) : Int := x * y / 18446744073709551616
def mLo (x y : Int) : Int := x * y % 18446744073709551616
/-- The product of a number of two words and a word: its three words. -/
def m3Top (h l b : Int) : Int := mHi h b + a3C (mLo h b) (mHi l b) 0
def m3Mid (h l b : Int) : Int := a3Lo (mLo h b) (mHi l b) 0
theorem mul_lt_sq {x y : Int} (hx : Word x) (hy : Word y) : 0 ≤ x * y ∧ x * y ≤ 18446744073709551615 * 18446744073709551615 := by
  unfold Word at *
  exact ⟨Int.mul_nonneg hx.1 hy.1, Int.mul_le_mul (by omega) (by omega) hy.1 (by omega)⟩
theorem mHi_word {x y : Int} (hx : Word x) (hy : Word y) : 0 ≤ mHi x y ∧ mHi x y ≤ 18446744073709551614 := by
  have h := mul_lt_sq hx hy
  unfold mHi
  generalize x * y = p at *
  omega
theorem mLo_word (x y : Int) : Word (mLo x y) := by unfold Word mLo; omega
theorem bcell {W w1 : World} (hb : Below W.heap.size W w1) : (∀ b o, b < W.heap.size → w1.cell? ⟨b, o, none⟩ = W.cell? ⟨b, o, none⟩) ∧ (∀ b o, b < W.heap.size → w1.frozen? ⟨b, o, none⟩ = W.frozen? ⟨b, o, none⟩) :=
  ⟨fun b o h => hb.cell (p := ⟨b, o, none⟩) h, fun b o h => hb.frozen (p := ⟨b, o, none⟩) h⟩
theorem ret_nb {x x' y y' : Int} {b b' : Bool} (hx : x = x') (hy : y = y') (hb : b = b') :
    Ending.returned (.tuple #[.agg #[.int .u64 x, .int .u64 y], .bool b]) = .returned (.tuple #[.agg #[.int .u64 x', .int .u64 y'], .bool b']) := by rw [hx, hy, hb]
set_option maxHeartbeats 400000 in
theorem radd_any (ah al bh bl : Int) (h1 : Word ah) (h2 : Word al) (h3 : Word bh) (h4 : Word bl) (w : World) :
    Calls Tryd.prog 81 #[.agg #[.int .u64 ah, .int .u64 al], .agg #[.int .u64 bh, .int .u64 bl]] w fun e w' =>
      e = .returned (.tuple #[.agg #[.int .u64 (sHi ah al bh bl), .int .u64 (sLo al bl)], .bool (sOv ah al bh bl)]) ∧ Below w.heap.size w w' := by
  go_enter Tryd.func81, Tryd.ntmps81
  go_wp2
  all_goals
    refine bodyPost_ret (v := _) (by simp [results, Tryd.results81, go_sem]; rfl) rfl ⟨?_, ((((Below.refl _ _).alloc (Nat.le_refl _) _).alloc (by simp) _).alloc (by simp; omega) _).alloc (by simp; omega) _⟩
    unfold Word at h1 h2 h3 h4
    simp only [IntKind.wrap_u64] at *
    apply ret_nb
    · unfold sHi a3Lo a3C; omega
    · unfold sLo a3Lo; omega
    · unfold sOv a3C; first | (rw [Bool.eq_iff_iff]; simp; omega) | (symm; simp; omega)
theorem maskN (a : Nat) (ha : a < 18446744073709551616) : bits .and .u64 (a : Int) 4294967295 = ((a % 4294967296 : Nat) : Int) := by
  have h := bits_and_u64_nat a 4294967295 ha (by omega)
  have e : a &&& 4294967295 = a % 4294967296 := Nat.and_two_pow_sub_one_eq_mod a 32
  rw [e] at h
  exact h
theorem divN (a : Nat) : (a : Int) / 4294967296 = ((a / 4294967296 : Nat) : Int) := by omega
theorem mulN (a b : Nat) : (a : Int) * (b : Int) = ((a * b : Nat) : Int) := (Int.natCast_mul a b).symm
theorem addN (a b : Nat) : (a : Int) + (b : Int) = ((a + b : Nat) : Int) := (Int.natCast_add a b).symm
theorem wrapN (a : Nat) (ha : a < 18446744073709551616) : IntKind.u64.wrap (a : Int) = (a : Int) := by rw [IntKind.wrap_u64]; omega
/-- The low word of a product, put together of halves. -/
theorem mul_lo (x y : Nat) : ((x % 4294967296 * (y / 4294967296) + (x / 4294967296 * (y % 4294967296) + x % 4294967296 * (y % 4294967296) / 4294967296) % 4294967296) * 4294967296 % 18446744073709551616) ||| (x * y % 4294967296) = x * y % 18446744073709551616 := by
  have e : x * y = (x / 4294967296) * (y / 4294967296) * (4294967296 * 4294967296) + ((x / 4294967296) * (y % 4294967296) + (x % 4294967296) * (y / 4294967296)) * 4294967296 + (x % 4294967296) * (y % 4294967296) := by
    rw [← Lib.split_mul, Nat.div_add_mod' x 4294967296, Nat.div_add_mod' y 4294967296]
  have f : ∀ T, T * 4294967296 % 18446744073709551616 = 2 ^ 32 * (T % 4294967296) := fun T => by omega
  rw [f, ← Nat.two_pow_add_eq_or_of_lt (by omega), e]
  generalize (x / 4294967296) * (y / 4294967296) = a at *
  generalize (x / 4294967296) * (y % 4294967296) = b at *
  generalize (x % 4294967296) * (y / 4294967296) = c at *
  generalize (x % 4294967296) * (y % 4294967296) = d at *
  omega
set_option maxHeartbeats 1000000 in
theorem rmul_any (a b : Int) (h1 : Word a) (h2 : Word b) (w : World) :
    Calls Tryd.prog 92 #[.int .u64 a, .int .u64 b] w fun e w' => e = .returned (.agg #[.int .u64 (mHi a b), .int .u64 (mLo a b)]) ∧ Below w.heap.size w w' := by
  obtain ⟨x, rfl⟩ := Int.eq_ofNat_of_zero_le h1.1
  obtain ⟨y, rfl⟩ := Int.eq_ofNat_of_zero_le h2.1
  have hx : x < 18446744073709551616 := by have := h1.2; omega
  have hy : y < 18446744073709551616 := by have := h2.2; omega
  clear h1 h2
  obtain ⟨bd, bt, bw, hhi⟩ := Lib.mul64_hi x y hx hy
  have ba := Lib.half_mul_le (a := x / 4294967296) (b := y / 4294967296) (by omega) (by omega)
  have bb := Lib.half_mul_le (a := x / 4294967296) (b := y % 4294967296) (by omega) (by omega)
  have bc := Lib.half_mul_le (a := x % 4294967296) (b := y / 4294967296) (by omega) (by omega)
  have ba' : x / 4294967296 * (y / 4294967296) < 18446744073709551616 := by omega
  have bb' : x / 4294967296 * (y % 4294967296) < 18446744073709551616 := by omega
  have bc' : x % 4294967296 * (y / 4294967296) < 18446744073709551616 := by omega
  have bh1 : x / 4294967296 * (y / 4294967296) + (x / 4294967296 * (y % 4294967296) + x % 4294967296 * (y % 4294967296) / 4294967296) / 4294967296 < 18446744073709551616 := by omega
  have bh : x / 4294967296 * (y / 4294967296) + (x / 4294967296 * (y % 4294967296) + x % 4294967296 * (y % 4294967296) / 4294967296) / 4294967296 + ((x / 4294967296 * (y % 4294967296) + x % 4294967296 * (y % 4294967296) / 4294967296) % 4294967296 + x % 4294967296 * (y / 4294967296)) / 4294967296 < 18446744073709551616 := by omega
  go_enter Tryd.func92, Tryd.ntmps92
  go_wp2
  have bw2 : x % 4294967296 * (y / 4294967296) + (x / 4294967296 * (y % 4294967296) + x % 4294967296 * (y % 4294967296) / 4294967296) % 4294967296 < 18446744073709551616 := by omega
  have bh2 : x / 4294967296 * (y / 4294967296) + (x / 4294967296 * (y % 4294967296) + x % 4294967296 * (y % 4294967296) / 4294967296) / 4294967296 + (x % 4294967296 * (y / 4294967296) + (x / 4294967296 * (y % 4294967296) + x % 4294967296 * (y % 4294967296) / 4294967296) % 4294967296) / 4294967296 < 18446744073709551616 := by omega
  simp only [maskN x hx, maskN y hy, divN, mulN, addN, wrapN _ bd, wrapN _ bb', wrapN _ bt, maskN _ bt, wrapN _ bc', wrapN _ bw2, wrapN _ ba', wrapN _ bh1, wrapN _ bh2, maskN _ bd]
  refine bodyPost_ret (v := _) (by simp [results, Tryd.results92, go_sem]; rfl) rfl ⟨?_, (Below.refl _ _).alloc (Nat.le_refl _) _⟩
  have e1 : x / 4294967296 * (y / 4294967296) + (x / 4294967296 * (y % 4294967296) + x % 4294967296 * (y % 4294967296) / 4294967296) / 4294967296 + (x % 4294967296 * (y / 4294967296) + (x / 4294967296 * (y % 4294967296) + x % 4294967296 * (y % 4294967296) / 4294967296) % 4294967296) / 4294967296 = x * y / 18446744073709551616 := by rw [← hhi]; omega
  have e2 := mul_lo x y
  have e3 : IntKind.u64.wrap (((x % 4294967296 * (y / 4294967296) + (x / 4294967296 * (y % 4294967296) + x % 4294967296 * (y % 4294967296) / 4294967296) % 4294967296 : Nat) : Int) * 4294967296) = (((x % 4294967296 * (y / 4294967296) + (x / 4294967296 * (y % 4294967296) + x % 4294967296 * (y % 4294967296) / 4294967296) % 4294967296) * 4294967296 % 18446744073709551616 : Nat) : Int) := by
    rw [IntKind.wrap_u64]; omega
  have e4 := bits_or_u64_nat _ (x * y % 4294967296) (Nat.mod_lt ((x % 4294967296 * (y / 4294967296) + (x / 4294967296 * (y % 4294967296) + x % 4294967296 * (y % 4294967296) / 4294967296) % 4294967296) * 4294967296) (by omega : 0 < 18446744073709551616)) (by omega)
  rw [e2, ← e3] at e4
  have f1 : mHi (x : Int) (y : Int) = ((x * y / 18446744073709551616 : Nat) : Int) := by unfold mHi; rw [mulN]; omega
  have f2 : mLo (x : Int) (y : Int) = ((x * y % 18446744073709551616 : Nat) : Int) := by unfold mLo; rw [mulN]; omega
  rw [f1, f2, ← e1, ← e4]
  simp only [Int.natCast_add, Int.natCast_mul, Int.natCast_ediv, Int.natCast_emod, Int.cast_ofNat_Int]
theorem ret_wn {x x' y y' z z' : Int} (hx : x = x') (hy : y = y') (hz : z = z') :
    Ending.returned (.tuple #[.int .u64 x, .agg #[.int .u64 y, .int .u64 z]]) = .returned (.tuple #[.int .u64 x', .agg #[.int .u64 y', .int .u64 z']]) := by rw [hx, hy, hz]
set_option maxHeartbeats 1000000 in
theorem rmulw_any (h l b : Int) (h1 : Word h) (h2 : Word l) (h3 : Word b) (w : World) :
    Calls Tryd.prog 80 #[.agg #[.int .u64 h, .int .u64 l], .int .u64 b] w fun e w' => e = .returned (.tuple #[.int .u64 (m3Top h l b), .agg #[.int .u64 (m3Mid h l b), .int .u64 (mLo l b)]]) ∧ Below w.heap.size w w' := by
  go_enter Tryd.func80, Tryd.ntmps80
  go_wp2_with (first
    | (go_at_call_of 92 (Value.int .u64 l); refine (rmul_any l b h2 h3 _).mono ?_; rintro e wa ⟨rfl, hba⟩; obtain ⟨hca, hfa⟩ := bcell hba; have hza := hba.size; simp at hca hfa hza; have q0 : w.heap.size < wa.heap.size := (by omega); have q1 : w.heap.size + 1 < wa.heap.size := (by omega))
    | (go_at_call_of 92 (Value.int .u64 h); refine (rmul_any h b h1 h3 _).mono ?_; rintro e wb ⟨rfl, hbb⟩; obtain ⟨hcb, hfb⟩ := bcell hbb; have hzb := hbb.size; simp at hcb hfb hzb; have q2 : w.heap.size < wb.heap.size := (by omega); have q3 : w.heap.size + 1 < wb.heap.size := (by omega); have q4 : wa.heap.size < wb.heap.size := (by omega)))
  all_goals go_region
  all_goals go_wp2
  all_goals
    have c0 : wb.cell? ⟨w.heap.size + 1, 0, none⟩ = some (.int .u64 0) := by rw [hcb _ _ (by omega), World.cell?_alloc_past _ _ _ q1, hca _ _ (by omega)]; simp
    have c1 : wb.cell? ⟨w.heap.size + 1, 1, none⟩ = some (.int .u64 0) := by rw [hcb _ _ (by omega), World.cell?_alloc_past _ _ _ q1, hca _ _ (by omega)]; simp
    have b1 : Below w.heap.size w wb := (((((Below.refl _ _).alloc (Nat.le_refl _) _).alloc (by simp) _).trans (hba.mono (by simp; omega))).alloc (by omega) _).trans (hbb.mono (by simp; omega))
    have k1 := mHi_word h1 h3
    have k2 := mHi_word h2 h3
    have k3 := mLo_word h b
    refine bodyPost_ret (v := _) (by simp [results, Tryd.results80, go_sem, c0, c1, q2, q3]; rfl) rfl ⟨?_, ((((b1.setCell (by simp) _).setCell (by simp) _).alloc (by simp [World.setCell]; omega) _).alloc (by simp [World.setCell]; omega) _).drew⟩
    simp only [IntKind.wrap_u64] at *
    unfold Word at *
    apply ret_wn
    · unfold m3Top a3C; omega
    · unfold m3Mid a3Lo; omega
    · rfl
end Go.Proofs.YtoabdoognadijaaDoor
