/-
  Holds: VMul.
-/
import Derived.Test.YtjagnfddmlkalaaGreatDoorRows
import Derived.Laws.Externs
import Derived.WalkKit
import Derived.WalkSpells
import Derived.WalkLawsBesides
import Derived.Lib.Mul64
import Derived.BigQuiet
import Derived.Deep.RegionHeld3
import Derived.Test.YtjagnfddmlkalaaGreatDoorKj4
set_option maxRecDepth 100000
set_option maxHeartbeats 4000000
namespace Go.Proofs.YtjagnfddmlkalaaGreatDoor
open Go.RowKit
theorem maskN (a : Nat) (ha : a < 18446744073709551616) : bits .and .u64 (a : Int) 4294967295 = ((a % 4294967296 : Nat) : Int) := by
 have h := bits_and_u64_nat a 4294967295 ha (by omega)
 have e : a &&& 4294967295 = a % 4294967296 := Nat.and_two_pow_sub_one_eq_mod a 32
 rw [e] at h
 exact h
theorem divN (a : Nat) : (a : Int) / 4294967296 = ((a / 4294967296 : Nat) : Int) := by omega
theorem mulN (a b : Nat) : (a : Int) * (b : Int) = ((a * b : Nat) : Int) := (Int.natCast_mul a b).symm
theorem addN (a b : Nat) : (a : Int) + (b : Int) = ((a + b : Nat) : Int) := (Int.natCast_add a b).symm
theorem wrapN (a : Nat) (ha : a < 18446744073709551616) : IntKind.u64.wrap (a : Int) = (a : Int) := by rw [IntKind.wrap_u64]; omega
theorem wrapM (a : Nat) : IntKind.u64.wrap (a : Int) = ((a % 18446744073709551616 : Nat) : Int) := by rw [IntKind.wrap_u64]; omega
theorem ret_two {x x' y y' : Int} (hx : x = x') (hy : y = y') : Ending.returned (.tuple #[.int .u64 x, .int .u64 y]) = .returned (.tuple #[.int .u64 x', .int .u64 y']) := by rw [hx, hy]
theorem mul64_any (a b : Int) (h1 : Word a) (h2 : Word b) (w : World) :
 Calls Tryz.prog 136 #[.int .u64 a, .int .u64 b] w fun e w' => e = .returned (.tuple #[.int .u64 (mHi a b), .int .u64 (mLo a b)]) ∧ w' = w := by
 obtain ⟨x, rfl⟩ := Int.eq_ofNat_of_zero_le h1.1
 obtain ⟨y, rfl⟩ := Int.eq_ofNat_of_zero_le h2.1
 have hx : x < 18446744073709551616 := by have := h1.2; omega
 have hy : y < 18446744073709551616 := by have := h2.2; omega
 clear h1 h2
 obtain ⟨bd, bt, bw, hhi⟩ := Lib.mul64_hi x y hx hy
 have ba := Lib.half_mul_le (a := x / 4294967296) (b := y / 4294967296) (by omega) (by omega)
 have bb := Lib.half_mul_le (a := x / 4294967296) (b := y % 4294967296) (by omega) (by omega)
 have bc := Lib.half_mul_le (a := x % 4294967296) (b := y / 4294967296) (by omega) (by omega)
 have ba' : x / 4294967296 * (y / 4294967296) < 18446744073709551616 := by omega
 have bb' : x / 4294967296 * (y % 4294967296) < 18446744073709551616 := by omega
 have bc' : x % 4294967296 * (y / 4294967296) < 18446744073709551616 := by omega
 have bh1 : x / 4294967296 * (y / 4294967296) + (x / 4294967296 * (y % 4294967296) + x % 4294967296 * (y % 4294967296) / 4294967296) / 4294967296 < 18446744073709551616 := by omega
 have bh : x / 4294967296 * (y / 4294967296) + (x / 4294967296 * (y % 4294967296) + x % 4294967296 * (y % 4294967296) / 4294967296) / 4294967296 + ((x / 4294967296 * (y % 4294967296) + x % 4294967296 * (y % 4294967296) / 4294967296) % 4294967296 + x % 4294967296 * (y / 4294967296)) / 4294967296 < 18446744073709551616 := by omega
 go_enter Tryz.func136, Tryz.ntmps136
 go_wp2
 simp only [maskN x hx, maskN y hy, divN, mulN, addN, wrapN _ bd, wrapN _ bb', wrapN _ bt, maskN _ bt, wrapN _ bc', wrapN _ bw, wrapN _ ba', wrapN _ bh1, wrapN _ bh, wrapM (x * y)]
 rw [hhi]
 go_ret2
 exact ⟨ret_two (by unfold mHi; rw [mulN]; omega) (by unfold mLo; rw [mulN]; omega), rfl⟩
theorem wmul_any (a b : Int) (h1 : Word a) (h2 : Word b) (w : World) :
 Calls Tryz.prog 118 #[.int .u64 a, .int .u64 b] w fun e w' => e = .returned (.agg #[.int .u64 (mHi a b), .int .u64 (mLo a b)]) ∧ Below w.heap.size w w' := by
 go_enter Tryz.func118, Tryz.ntmps118
 go_wp2_with (go_at_call 136; refine (mul64_any a b h1 h2 _).mono ?_; rintro e w' ⟨rfl, rfl⟩)
 exact bodyPost_ret (v := .agg #[.int .u64 (mHi a b), .int .u64 (mLo a b)]) (by simp [results, Tryz.results118, go_sem]) rfl ⟨rfl, (Below.refl _ _).alloc (Nat.le_refl _) _⟩
theorem ret_wn {x x' y y' z z' : Int} (hx : x = x') (hy : y = y') (hz : z = z') :
 Ending.returned (.tuple #[.int .u64 x, .agg #[.int .u64 y, .int .u64 z]]) = .returned (.tuple #[.int .u64 x', .agg #[.int .u64 y', .int .u64 z']]) := by rw [hx, hy, hz]
theorem wmulw_any (h l b : Int) (h1 : Word h) (h2 : Word l) (h3 : Word b) (w : World) :
 Calls Tryz.prog 70 #[.agg #[.int .u64 h, .int .u64 l], .int .u64 b] w fun e w' => e = .returned (.tuple #[.int .u64 (m3Top h l b), .agg #[.int .u64 (m3Mid h l b), .int .u64 (mLo l b)]]) ∧ Below w.heap.size w w' := by
 have k1 := mHi_isWord h2 h3
 have k2 := mLo_word h b
 go_enter Tryz.func70, Tryz.ntmps70
 go_wp2_with (first
  | (go_at_call_of 118 (Value.int .u64 l); refine (wmul_any l b h2 h3 _).mono ?_; rintro e wa ⟨rfl, hba⟩; obtain ⟨hca, hfa⟩ := bcell hba; have hza := hba.size; simp at hca hfa hza; have q0 : w.heap.size < wa.heap.size := (by omega); have q1 : w.heap.size + 1 < wa.heap.size := (by omega))
  | (go_at_call_of 118 (Value.int .u64 h); refine (wmul_any h b h1 h3 _).mono ?_; rintro e wb ⟨rfl, hbb⟩; obtain ⟨hcb, hfb⟩ := bcell hbb; have hzb := hbb.size; simp at hcb hfb hzb; have q2 : w.heap.size < wb.heap.size := (by omega); have q3 : w.heap.size + 1 < wb.heap.size := (by omega); have q4 : wa.heap.size < wb.heap.size := (by omega))
  | simp only [add64 _ _ 0 k2 k1 (Int.le_refl 0) (by omega : (0:Int) ≤ 1)])
 go_region
 all_goals
  go_wp2
  have c0 : wb.cell? ⟨w.heap.size + 1, 0, none⟩ = some (.int .u64 0) := by rw [hcb _ _ (by omega), World.cell?_alloc_past _ _ _ q1, hca _ _ (by omega)]; simp
  have c1 : wb.cell? ⟨w.heap.size + 1, 1, none⟩ = some (.int .u64 0) := by rw [hcb _ _ (by omega), World.cell?_alloc_past _ _ _ q1, hca _ _ (by omega)]; simp
  have b1 : Below w.heap.size w wb := (((((Below.refl _ _).alloc (Nat.le_refl _) _).alloc (by simp) _).trans (hba.mono (by simp; omega))).alloc (by omega) _).trans (hbb.mono (by simp; omega))
  refine bodyPost_ret (v := _) (by simp [results, Tryz.results70, go_sem, c0, c1, q3]; rfl) rfl ⟨?_, (((b1.setCell (by simp) _).setCell (by simp) _).alloc (by simp [World.setCell]; omega) _).drew⟩
  apply ret_wn
  · have e1 := m3Top_word h1 h2 h3
    unfold m3Top Word at *
    rw [IntKind.wrap_u64]; omega
  · rfl
  · rfl
end Go.Proofs.YtjagnfddmlkalaaGreatDoor
