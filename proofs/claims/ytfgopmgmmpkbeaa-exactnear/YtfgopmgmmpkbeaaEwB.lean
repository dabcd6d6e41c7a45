/-
  The program's small road: what exact.single, double, reckon answer for numbers and powers that the floats hold.
-/
import Derived.Test.YtfgopmgmmpkbeaaEwA
namespace Go.Proofs.Ytfgopmgmmpkbeaa
open Go.RowKit

theorem of_zero64 : floatOfInt .f64 ((0 : Nat) : Int) = 0 := by decide +kernel
theorem of_zero32 : floatOfInt .f32 ((0 : Nat) : Int) = 0 := by decide +kernel
theorem exA_zero (f T : Nat) (L e : Int) : exA f T L 0 e = 0 := by
  unfold exA rdA
  rw [Nat.zero_mul, if_pos rfl]
/-- A number times a power of ten, in floats of 64 bits. -/
theorem mul64 {m k p : Nat} (hm : m ≤ 9007199254740992) (hp : Is 52 2047 (-1074) (10 ^ k) p) (h0 : m = 0 → k = 0) : floatBits .mul .f64 (floatOfInt .f64 (m : Int)) p = some (exA 52 2047 (-1074) m (k : Int)) := by
  by_cases m0 : m = 0
  · obtain rfl := h0 m0
    subst m0
    obtain rfl := hp.uniq (by decide) (by decide) is_one64
    rw [exA_zero, of_zero64]
    decide +kernel
  · obtain ⟨b, hb⟩ := is_small64 m0 hm
    rw [ofInt_is fmtF64 m0 hb, exA_up]
    exact mul_is fmtF64 hb hp
theorem quo64 {m k p : Nat} (hm : m ≤ 9007199254740992) (m0 : m ≠ 0) (hp : Is 52 2047 (-1074) (10 ^ k) p) : floatBits .quo .f64 (floatOfInt .f64 (m : Int)) p = some (exA 52 2047 (-1074) m (-(k : Int))) := by
  obtain ⟨b, hb⟩ := is_small64 m0 hm
  rw [ofInt_is fmtF64 m0 hb, exA_dn]
  exact div_is fmtF64 m0 (ten_ne k) hb hp
theorem is_one32 : Is 23 255 (-149) 1 1065353216 := ⟨by decide, -23, by decide, by decide +kernel, by decide +kernel⟩
theorem mul32 {m k p : Nat} (hm : m ≤ 16777216) (hp : Is 23 255 (-149) (10 ^ k) p) (h0 : m = 0 → k = 0) : floatBits .mul .f32 (floatOfInt .f32 (m : Int)) p = some (exA 23 255 (-149) m (k : Int)) := by
  by_cases m0 : m = 0
  · obtain rfl := h0 m0
    subst m0
    obtain rfl := hp.uniq (by decide) (by decide) is_one32
    rw [exA_zero, of_zero32]
    decide +kernel
  · obtain ⟨b, hb⟩ := is_small32 m0 hm
    rw [ofInt_is fmtF32 m0 hb, exA_up]
    exact mul_is fmtF32 hb hp
theorem quo32 {m k p : Nat} (hm : m ≤ 16777216) (m0 : m ≠ 0) (hp : Is 23 255 (-149) (10 ^ k) p) : floatBits .quo .f32 (floatOfInt .f32 (m : Int)) p = some (exA 23 255 (-149) m (-(k : Int))) := by
  obtain ⟨b, hb⟩ := is_small32 m0 hm
  rw [ofInt_is fmtF32 m0 hb, exA_dn]
  exact div_is fmtF32 m0 (ten_ne k) hb hp

set_option maxRecDepth 100000 in
set_option maxHeartbeats 1000000 in
theorem double_up (m k : Nat) (hm : m ≤ 9007199254740992) (hk : k ≤ 22) (h0 : m = 0 → k = 0) (w : World) : Calls Try.prog 35 #[.int .u64 (m : Int), .int .i64 (k : Int)] w fun e w' => e = .returned (.float .f64 (exA 52 2047 (-1074) m (k : Int))) ∧ w' = w := by
  have T := fun W => ten_ok k hk W
  have HF : Hid (∀ p, Is 52 2047 (-1074) (10 ^ k) p → floatBits .mul .f64 (floatOfInt .f64 (m : Int)) p = some (exA 52 2047 (-1074) m (k : Int))) := fun p hp => mul64 hm hp h0
  generalize exA 52 2047 (-1074) m (k : Int) = R at *
  have c : ¬ (k : Int) < 0 := by omega
  clear hm h0
  go_enter Try.func35, Try.ntmps35
  go_wp2_with fail
  refine (T _).mono ?_
  rintro e w1 ⟨⟨p, rfl, hp⟩, rfl⟩
  have hop : ∀ t w, (binOp .mul t (.float .f64 (floatOfInt .f64 (m : Int))) (.float .f64 p)).run Try.prog w = .ok (.float .f64 R) w := fun t w => run_float_arith w .mul t .f64 _ _ _ (HF.out p hp)
  clear T hp HF
  go_wp2
  go_ret
  exact ⟨rfl, rfl⟩
set_option maxRecDepth 100000 in
set_option maxHeartbeats 1000000 in
theorem double_dn (m k : Nat) (hm : m ≤ 9007199254740992) (m0 : m ≠ 0) (hk : k ≤ 22) (k0 : 0 < k) (w : World) : Calls Try.prog 35 #[.int .u64 (m : Int), .int .i64 (-(k : Int))] w fun e w' => e = .returned (.float .f64 (exA 52 2047 (-1074) m (-(k : Int)))) ∧ w' = w := by
  have T := fun W => ten_ok k hk W
  have HF : Hid (∀ p, Is 52 2047 (-1074) (10 ^ k) p → floatBits .quo .f64 (floatOfInt .f64 (m : Int)) p = some (exA 52 2047 (-1074) m (-(k : Int)))) := fun p hp => quo64 hm m0 hp
  generalize exA 52 2047 (-1074) m (-(k : Int)) = R at *
  have c : -(k : Int) < 0 := by omega
  clear hm m0 k0
  go_enter Try.func35, Try.ntmps35
  go_wp2_with fail
  refine (T _).mono ?_
  rintro e w1 ⟨⟨p, rfl, hp⟩, rfl⟩
  have hop : ∀ t w, (binOp .quo t (.float .f64 (floatOfInt .f64 (m : Int))) (.float .f64 p)).run Try.prog w = .ok (.float .f64 R) w := fun t w => run_float_arith w .quo t .f64 _ _ _ (HF.out p hp)
  clear T hp HF
  go_wp2
  go_ret
  exact ⟨rfl, rfl⟩
set_option maxRecDepth 100000 in
set_option maxHeartbeats 1000000 in
theorem single_up (m k : Nat) (hm : m ≤ 16777216) (hk : k ≤ 10) (h0 : m = 0 → k = 0) (w : World) : Calls Try.prog 33 #[.int .u64 (m : Int), .int .i64 (k : Int)] w fun e w' => e = .returned (.float .f32 (exA 23 255 (-149) m (k : Int))) ∧ w' = w := by
  have T := fun W => ten_ok k (by omega) W
  obtain ⟨q, hq⟩ := is_ten32 hk
  have HF : Hid (floatBits .mul .f32 (floatOfInt .f32 (m : Int)) q = some (exA 23 255 (-149) m (k : Int)) ∧ Is 23 255 (-149) (10 ^ k) q) := ⟨mul32 hm hq h0, hq⟩
  generalize exA 23 255 (-149) m (k : Int) = R at *
  have c : ¬ (k : Int) < 0 := by omega
  clear hm h0 hq
  go_enter Try.func33, Try.ntmps33
  go_wp2_with fail
  refine (T _).mono ?_
  rintro e w1 ⟨⟨p, rfl, hp⟩, rfl⟩
  have hop : ∀ t w, (binOp .mul t (.float .f32 (floatOfInt .f32 (m : Int))) (.float .f32 q)).run Try.prog w = .ok (.float .f32 R) w := fun t w => run_float_arith w .mul t .f32 _ _ _ HF.out.1
  have hc : ∀ w, (convert 78 75 (.float .f64 p)).run Try.prog w = .ok (.float .f32 q) w := fun w => run_convert_float_float w 78 75 .f64 .f32 p q (by kernel_rfl) (by kernel_rfl) (narrow_is (ten_ne k) hp HF.out.2)
  clear T hp HF
  go_wp2
  go_ret
  exact ⟨rfl, rfl⟩
set_option maxRecDepth 100000 in
set_option maxHeartbeats 1000000 in
theorem single_dn (m k : Nat) (hm : m ≤ 16777216) (m0 : m ≠ 0) (hk : k ≤ 10) (k0 : 0 < k) (w : World) : Calls Try.prog 33 #[.int .u64 (m : Int), .int .i64 (-(k : Int))] w fun e w' => e = .returned (.float .f32 (exA 23 255 (-149) m (-(k : Int)))) ∧ w' = w := by
  have T := fun W => ten_ok k (by omega) W
  obtain ⟨q, hq⟩ := is_ten32 hk
  have HF : Hid (floatBits .quo .f32 (floatOfInt .f32 (m : Int)) q = some (exA 23 255 (-149) m (-(k : Int))) ∧ Is 23 255 (-149) (10 ^ k) q) := ⟨quo32 hm m0 hq, hq⟩
  generalize exA 23 255 (-149) m (-(k : Int)) = R at *
  have c : -(k : Int) < 0 := by omega
  clear hm m0 hq k0
  go_enter Try.func33, Try.ntmps33
  go_wp2_with fail
  refine (T _).mono ?_
  rintro e w1 ⟨⟨p, rfl, hp⟩, rfl⟩
  have hop : ∀ t w, (binOp .quo t (.float .f32 (floatOfInt .f32 (m : Int))) (.float .f32 q)).run Try.prog w = .ok (.float .f32 R) w := fun t w => run_float_arith w .quo t .f32 _ _ _ HF.out.1
  have hc : ∀ w, (convert 78 75 (.float .f64 p)).run Try.prog w = .ok (.float .f32 q) w := fun w => run_convert_float_float w 78 75 .f64 .f32 p q (by kernel_rfl) (by kernel_rfl) (narrow_is (ten_ne k) hp HF.out.2)
  clear T hp HF
  go_wp2
  go_ret
  exact ⟨rfl, rfl⟩
/-- The most that a size holds: the number, and the power of ten. -/
def mostM (s : Int) : Nat := if s = 32 then 16777216 else 9007199254740992
def mostK (s : Int) : Nat := if s = 32 then 10 else 22
theorem exA_lt32 (m : Nat) (e : Int) : exA 23 255 (-149) m e < 4294967296 := by
  have := (rdA_end (f := 23) (T := 255) (L := (-149)) (n := m * 10 ^ e.toNat) (d := 10 ^ (-e).toNat) (e := 0) (more := false) (by decide)).1
  unfold exA
  omega
set_option maxRecDepth 100000 in
set_option maxHeartbeats 1000000 in
theorem reckon_64 {m : Nat} {e : Int} (D : ∀ W, Calls Try.prog 35 #[.int .u64 (m : Int), .int .i64 e] W fun x w' => x = .returned (.float .f64 (exA 52 2047 (-1074) m e)) ∧ w' = W) (w : World) : Calls Try.prog 23 #[.int .u64 (m : Int), .int .i64 e, .int .i64 64] w fun x w' => x = .returned (.int .u64 ((exA 52 2047 (-1074) m e : Nat) : Int)) ∧ w' = w := by
  generalize exA 52 2047 (-1074) m e = R at *
  go_enter Try.func23, Try.ntmps23
  go_wp2_with fail
  refine (D _).mono ?_
  rintro x w1 ⟨rfl, rfl⟩
  go_wp2_with (simp only [f64bits])
  go_ret
  exact ⟨rfl, rfl⟩
set_option maxRecDepth 100000 in
set_option maxHeartbeats 1000000 in
theorem reckon_32 {m : Nat} {e : Int} (D : ∀ W, Calls Try.prog 33 #[.int .u64 (m : Int), .int .i64 e] W fun x w' => x = .returned (.float .f32 (exA 23 255 (-149) m e)) ∧ w' = W) (w : World) : Calls Try.prog 23 #[.int .u64 (m : Int), .int .i64 e, .int .i64 32] w fun x w' => x = .returned (.int .u64 ((exA 23 255 (-149) m e : Nat) : Int)) ∧ w' = w := by
  have l := exA_lt32 m e
  generalize exA 23 255 (-149) m e = R at *
  go_enter Try.func23, Try.ntmps23
  go_wp2_with fail
  refine (D _).mono ?_
  rintro x w1 ⟨rfl, rfl⟩
  go_wp2_with (simp only [f32bits])
  go_ret
  exact ⟨rfl, rfl⟩
/-- Two sizes: their numbers. -/
def Xz (s : Int) (f T : Nat) (L : Int) (M K : Nat) : Prop := (s = 32 ∧ f = 23 ∧ T = 255 ∧ L = -149 ∧ M = 16777216 ∧ K = 10) ∨ (s = 64 ∧ f = 52 ∧ T = 2047 ∧ L = -1074 ∧ M = 9007199254740992 ∧ K = 22)
theorem reckon_ok {s : Int} {f T : Nat} {L : Int} {M K : Nat} (h : Xz s f T L M K) {m : Nat} {e : Int} (hm : m ≤ M) (h0 : -(K : Int) ≤ e) (h1 : e ≤ K) (hz : m = 0 → e = 0) (w : World) : Calls Try.prog 23 #[.int .u64 (m : Int), .int .i64 e, .int .i64 s] w fun x w' => x = .returned (.int .u64 ((exA f T L m e : Nat) : Int)) ∧ w' = w := by
  rcases h with ⟨rfl, rfl, rfl, rfl, rfl, rfl⟩ | ⟨rfl, rfl, rfl, rfl, rfl, rfl⟩
  · refine reckon_32 (fun W => ?_) w
    by_cases c : 0 ≤ e
    · obtain ⟨k, rfl⟩ : ∃ k : Nat, e = (k : Int) := ⟨e.toNat, by omega⟩
      exact single_up m k hm (by omega) (fun z => by have := hz z; omega) W
    · obtain ⟨k, rfl⟩ : ∃ k : Nat, e = -(k : Int) := ⟨(-e).toNat, by omega⟩
      exact single_dn m k hm (fun z => by have := hz z; omega) (by omega) (by omega) W
  · refine reckon_64 (fun W => ?_) w
    by_cases c : 0 ≤ e
    · obtain ⟨k, rfl⟩ : ∃ k : Nat, e = (k : Int) := ⟨e.toNat, by omega⟩
      exact double_up m k hm (by omega) (fun z => by have := hz z; omega) W
    · obtain ⟨k, rfl⟩ : ∃ k : Nat, e = -(k : Int) := ⟨(-e).toNat, by omega⟩
      exact double_dn m k hm (fun z => by have := hz z; omega) (by omega) (by omega) W
end Go.Proofs.Ytfgopmgmmpkbeaa
