/-
  Holds: UEwA UEwB UEwC.
-/
import Derived.Laws.BitsAllLaws
import Derived.Laws.FloatArith
import Derived.Test.YtiminkommimgdabGreatDoorChecked
import Derived.Laws.Externs
import Derived.WalkKit
import Derived.WalkSpells
import Derived.WalkLawsBesides
import Derived.Test.YtiminkommimgdabGreatDoorZ9
set_option maxRecDepth 100000
set_option maxHeartbeats 4000000
namespace Go.Proofs.YtiminkommimgdabGreatDoor
open Go.RowKit
theorem f64bits (b : Nat) (w : World) : (callFunc 120 #[.float .f64 b]).run Tryz.prog w = .ok (.value (.int .u64 (b : Int))) w := by
 rw [run_callFunc_extern Tryz.func120 (by kernel_rfl) (by kernel_rfl) (by kernel_rfl) (e := Extern.MathFloatBits.float64bits) (by kernel_rfl)]
 rfl
theorem f32bits (b : Nat) (w : World) : (callFunc 118 #[.float .f32 b]).run Tryz.prog w = .ok (.value (.int .u32 (b : Int))) w := by
 rw [run_callFunc_extern Tryz.func118 (by kernel_rfl) (by kernel_rfl) (by kernel_rfl) (e := Extern.MathFloatBits.float32bits) (by kernel_rfl)]
 rfl
def exA (f T : Nat) (L : Int) (m : Nat) (e : Int) : Nat := (rdA f T L (m * 10 ^ e.toNat) (10 ^ (-e).toNat) 0 false).1
theorem exA_up {f T : Nat} {L : Int} {m k : Nat} : exA f T L m (k : Int) = (rdA f T L (m * 10 ^ k) 1 0 false).1 := by
 unfold exA
 rw [Int.toNat_natCast, show (-(k : Int)).toNat = 0 from by omega, Nat.pow_zero]
theorem exA_dn {f T : Nat} {L : Int} {m k : Nat} : exA f T L m (-(k : Int)) = (rdA f T L m (10 ^ k) 0 false).1 := by
 unfold exA
 rw [show (- -(k : Int)).toNat = k from by omega, show (-(k : Int)).toNat = 0 from by omega, Nat.pow_zero, Nat.mul_one]
theorem is_one64 : Is 52 2047 (-1074) 1 4607182418800017408 := ⟨by decide, -52, by decide, by decide +kernel, by decide +kernel⟩
theorem is_tens64 : Is 52 2047 (-1074) 10 4621819117588971520 := ⟨by decide, -49, by decide, by decide +kernel, by decide +kernel⟩
theorem ten_ne (k : Nat) : 10 ^ k ≠ 0 := Nat.ne_of_gt (Nat.pow_pos (by decide))
theorem ten_ok (n : Nat) (hn : n ≤ 22) (w : World) : Calls Tryz.prog 149 #[.int .i64 (n : Int)] w fun e w' => (∃ b, e = .returned (.float .f64 b) ∧ Is 52 2047 (-1074) (10 ^ n) b) ∧ w' = w := by
 go_enter Tryz.func149, Tryz.ntmps149
 go_wp2
 go_loop [3, 5] (fun pv iv => ∃ k b : Nat, pv = .float .f64 b ∧ iv = .int .i64 (k : Int) ∧ k ≤ n ∧ Hid (Is 52 2047 (-1074) (10 ^ k) b)) (fun _ iv => n - (intOf iv).toNat)
 case atStart => exact ⟨0, _, rfl, rfl, Nat.zero_le _, is_one64⟩
 case round =>
  obtain ⟨k, b, rfl, rfl, hk, HB⟩ := hrel
  by_cases c : k < n
  · obtain ⟨b', hb'⟩ := is_ten64 (k := k + 1) (by omega)
    have hm : floatBits .mul .f64 b 4621819117588971520 = some b' := mul_held fmtF64 (ten_ne k) (by decide) HB.out is_tens64 (by rw [← Nat.pow_succ]; exact hb')
    have hop : ∀ t w, (binOp .mul t (.float .f64 b) (.float .f64 4621819117588971520)).run Tryz.prog w = .ok (.float .f64 b') w := fun t w => run_float_arith w .mul t .f64 _ _ _ hm
    have HB' : Hid (Is 52 2047 (-1074) (10 ^ (k + 1)) b') := hb'
    clear hb' hm HB
    go_wp2_with (simp only [hop])
    go_round
    case rel => exact ⟨k + 1, b', rfl, by go_num, by omega, HB'⟩
    case measure => simp [intOf]; omega
  · obtain rfl : k = n := by omega
    go_wp2
    go_ret
    exact ⟨⟨_, rfl, HB.out⟩, rfl⟩
theorem narrow_is {n b b' : Nat} (n0 : n ≠ 0) (h : Is 52 2047 (-1074) n b) (h' : Is 23 255 (-149) n b') : floatToFloatBits .f64 b .f32 = some b' := by
 have e1 : FloatKind.f64.decode b = .number false (mt 52 b) (xp 52 (-1074) b) := read_fin fmtF64 h.1
 have e2 : FloatKind.f32.encode (.number false (mt 52 b) (xp 52 (-1074) b)) = b' := by
  show FloatKind.f32.format.nearest false (mt 52 b) (xp 52 (-1074) b) = b'
  rw [nearest_rd fmtF32]
  have e := h'.rd (by decide) n0
  rw [rdA_same (d := 1) (d' := 1) (n' := mt 52 b) (e' := xp 52 (-1074) b) (by decide) (by decide) (by decide) (by rw [Nat.mul_one, Nat.mul_one]; exact h.2)] at e
  rw [e]
 have e3 : FloatKind.f32.decode b' = .number false (mt 23 b') (xp 23 (-149) b') := read_fin fmtF32 h'.1
 unfold floatToFloatBits
 rw [if_neg (by decide), e1]
 simp only [e2, e3, Ieee.Datum.isInfinity]
 rfl
theorem of_zero64 : floatOfInt .f64 ((0 : Nat) : Int) = 0 := by decide +kernel
theorem of_zero32 : floatOfInt .f32 ((0 : Nat) : Int) = 0 := by decide +kernel
theorem exA_zero (f T : Nat) (L e : Int) : exA f T L 0 e = 0 := by
 unfold exA rdA
 rw [Nat.zero_mul, if_pos rfl]
theorem mul64 {m k p : Nat} (hm : m ≤ 9007199254740992) (hp : Is 52 2047 (-1074) (10 ^ k) p) (h0 : m = 0 → k = 0) : floatBits .mul .f64 (floatOfInt .f64 (m : Int)) p = some (exA 52 2047 (-1074) m (k : Int)) := by
 by_cases m0 : m = 0
 · obtain rfl := h0 m0
   subst m0
   obtain rfl := hp.uniq (by decide) (by decide) is_one64
   rw [exA_zero, of_zero64]
   decide +kernel
 · obtain ⟨b, hb⟩ := is_small64 m0 hm
   rw [ofInt_is fmtF64 m0 hb, exA_up]
   exact mul_is fmtF64 hb hp
theorem quo64 {m k p : Nat} (hm : m ≤ 9007199254740992) (m0 : m ≠ 0) (hp : Is 52 2047 (-1074) (10 ^ k) p) : floatBits .quo .f64 (floatOfInt .f64 (m : Int)) p = some (exA 52 2047 (-1074) m (-(k : Int))) := by
 obtain ⟨b, hb⟩ := is_small64 m0 hm
 rw [ofInt_is fmtF64 m0 hb, exA_dn]
 exact div_is fmtF64 m0 (ten_ne k) hb hp
theorem is_one32 : Is 23 255 (-149) 1 1065353216 := ⟨by decide, -23, by decide, by decide +kernel, by decide +kernel⟩
theorem mul32 {m k p : Nat} (hm : m ≤ 16777216) (hp : Is 23 255 (-149) (10 ^ k) p) (h0 : m = 0 → k = 0) : floatBits .mul .f32 (floatOfInt .f32 (m : Int)) p = some (exA 23 255 (-149) m (k : Int)) := by
 by_cases m0 : m = 0
 · obtain rfl := h0 m0
   subst m0
   obtain rfl := hp.uniq (by decide) (by decide) is_one32
   rw [exA_zero, of_zero32]
   decide +kernel
 · obtain ⟨b, hb⟩ := is_small32 m0 hm
   rw [ofInt_is fmtF32 m0 hb, exA_up]
   exact mul_is fmtF32 hb hp
theorem quo32 {m k p : Nat} (hm : m ≤ 16777216) (m0 : m ≠ 0) (hp : Is 23 255 (-149) (10 ^ k) p) : floatBits .quo .f32 (floatOfInt .f32 (m : Int)) p = some (exA 23 255 (-149) m (-(k : Int))) := by
 obtain ⟨b, hb⟩ := is_small32 m0 hm
 rw [ofInt_is fmtF32 m0 hb, exA_dn]
 exact div_is fmtF32 m0 (ten_ne k) hb hp
theorem double_up (m k : Nat) (hm : m ≤ 9007199254740992) (hk : k ≤ 22) (h0 : m = 0 → k = 0) (w : World) : Calls Tryz.prog 121 #[.int .u64 (m : Int), .int .i64 (k : Int)] w fun e w' => e = .returned (.float .f64 (exA 52 2047 (-1074) m (k : Int))) ∧ w' = w := by
 have T := fun W => ten_ok k hk W
 have HF : Hid (∀ p, Is 52 2047 (-1074) (10 ^ k) p → floatBits .mul .f64 (floatOfInt .f64 (m : Int)) p = some (exA 52 2047 (-1074) m (k : Int))) := fun p hp => mul64 hm hp h0
 generalize exA 52 2047 (-1074) m (k : Int) = R at *
 have c : ¬ (k : Int) < 0 := by omega
 clear hm h0
 go_enter Tryz.func121, Tryz.ntmps121
 go_wp2_with fail
 refine (T _).mono ?_
 rintro e w1 ⟨⟨p, rfl, hp⟩, rfl⟩
 have hop : ∀ t w, (binOp .mul t (.float .f64 (floatOfInt .f64 (m : Int))) (.float .f64 p)).run Tryz.prog w = .ok (.float .f64 R) w := fun t w => run_float_arith w .mul t .f64 _ _ _ (HF.out p hp)
 clear T hp HF
 go_wp2
 go_ret
 exact ⟨rfl, rfl⟩
theorem double_dn (m k : Nat) (hm : m ≤ 9007199254740992) (m0 : m ≠ 0) (hk : k ≤ 22) (k0 : 0 < k) (w : World) : Calls Tryz.prog 121 #[.int .u64 (m : Int), .int .i64 (-(k : Int))] w fun e w' => e = .returned (.float .f64 (exA 52 2047 (-1074) m (-(k : Int)))) ∧ w' = w := by
 have T := fun W => ten_ok k hk W
 have HF : Hid (∀ p, Is 52 2047 (-1074) (10 ^ k) p → floatBits .quo .f64 (floatOfInt .f64 (m : Int)) p = some (exA 52 2047 (-1074) m (-(k : Int)))) := fun p hp => quo64 hm m0 hp
 generalize exA 52 2047 (-1074) m (-(k : Int)) = R at *
 have c : -(k : Int) < 0 := by omega
 clear hm m0 k0
 go_enter Tryz.func121, Tryz.ntmps121
 go_wp2_with fail
 refine (T _).mono ?_
 rintro e w1 ⟨⟨p, rfl, hp⟩, rfl⟩
 have hop : ∀ t w, (binOp .quo t (.float .f64 (floatOfInt .f64 (m : Int))) (.float .f64 p)).run Tryz.prog w = .ok (.float .f64 R) w := fun t w => run_float_arith w .quo t .f64 _ _ _ (HF.out p hp)
 clear T hp HF
 go_wp2
 go_ret
 exact ⟨rfl, rfl⟩
theorem single_up (m k : Nat) (hm : m ≤ 16777216) (hk : k ≤ 10) (h0 : m = 0 → k = 0) (w : World) : Calls Tryz.prog 119 #[.int .u64 (m : Int), .int .i64 (k : Int)] w fun e w' => e = .returned (.float .f32 (exA 23 255 (-149) m (k : Int))) ∧ w' = w := by
 have T := fun W => ten_ok k (by omega) W
 obtain ⟨q, hq⟩ := is_ten32 hk
 have HF : Hid (floatBits .mul .f32 (floatOfInt .f32 (m : Int)) q = some (exA 23 255 (-149) m (k : Int)) ∧ Is 23 255 (-149) (10 ^ k) q) := ⟨mul32 hm hq h0, hq⟩
 generalize exA 23 255 (-149) m (k : Int) = R at *
 have c : ¬ (k : Int) < 0 := by omega
 clear hm h0 hq
 go_enter Tryz.func119, Tryz.ntmps119
 go_wp2_with fail
 refine (T _).mono ?_
 rintro e w1 ⟨⟨p, rfl, hp⟩, rfl⟩
 have hop : ∀ t w, (binOp .mul t (.float .f32 (floatOfInt .f32 (m : Int))) (.float .f32 q)).run Tryz.prog w = .ok (.float .f32 R) w := fun t w => run_float_arith w .mul t .f32 _ _ _ HF.out.1
 have hc : ∀ w, (convert 206 203 (.float .f64 p)).run Tryz.prog w = .ok (.float .f32 q) w := fun w => run_convert_float_float w 206 203 .f64 .f32 p q (by kernel_rfl) (by kernel_rfl) (narrow_is (ten_ne k) hp HF.out.2)
 clear T hp HF
 go_wp2
 go_ret
 exact ⟨rfl, rfl⟩
theorem single_dn (m k : Nat) (hm : m ≤ 16777216) (m0 : m ≠ 0) (hk : k ≤ 10) (k0 : 0 < k) (w : World) : Calls Tryz.prog 119 #[.int .u64 (m : Int), .int .i64 (-(k : Int))] w fun e w' => e = .returned (.float .f32 (exA 23 255 (-149) m (-(k : Int)))) ∧ w' = w := by
 have T := fun W => ten_ok k (by omega) W
 obtain ⟨q, hq⟩ := is_ten32 hk
 have HF : Hid (floatBits .quo .f32 (floatOfInt .f32 (m : Int)) q = some (exA 23 255 (-149) m (-(k : Int))) ∧ Is 23 255 (-149) (10 ^ k) q) := ⟨quo32 hm m0 hq, hq⟩
 generalize exA 23 255 (-149) m (-(k : Int)) = R at *
 have c : -(k : Int) < 0 := by omega
 clear hm m0 hq k0
 go_enter Tryz.func119, Tryz.ntmps119
 go_wp2_with fail
 refine (T _).mono ?_
 rintro e w1 ⟨⟨p, rfl, hp⟩, rfl⟩
 have hop : ∀ t w, (binOp .quo t (.float .f32 (floatOfInt .f32 (m : Int))) (.float .f32 q)).run Tryz.prog w = .ok (.float .f32 R) w := fun t w => run_float_arith w .quo t .f32 _ _ _ HF.out.1
 have hc : ∀ w, (convert 206 203 (.float .f64 p)).run Tryz.prog w = .ok (.float .f32 q) w := fun w => run_convert_float_float w 206 203 .f64 .f32 p q (by kernel_rfl) (by kernel_rfl) (narrow_is (ten_ne k) hp HF.out.2)
 clear T hp HF
 go_wp2
 go_ret
 exact ⟨rfl, rfl⟩
theorem exA_lt32 (m : Nat) (e : Int) : exA 23 255 (-149) m e < 4294967296 := by
 have := (rdA_end (f := 23) (T := 255) (L := (-149)) (n := m * 10 ^ e.toNat) (d := 10 ^ (-e).toNat) (e := 0) (more := false) (by decide)).1
 unfold exA
 omega
theorem reckon_64 {m : Nat} {e : Int} (D : ∀ W, Calls Tryz.prog 121 #[.int .u64 (m : Int), .int .i64 e] W fun x w' => x = .returned (.float .f64 (exA 52 2047 (-1074) m e)) ∧ w' = W) (w : World) : Calls Tryz.prog 83 #[.int .u64 (m : Int), .int .i64 e, .int .i64 64] w fun x w' => x = .returned (.int .u64 ((exA 52 2047 (-1074) m e : Nat) : Int)) ∧ w' = w := by
 generalize exA 52 2047 (-1074) m e = R at *
 go_enter Tryz.func83, Tryz.ntmps83
 go_wp2_with fail
 refine (D _).mono ?_
 rintro x w1 ⟨rfl, rfl⟩
 go_wp2_with (simp only [f64bits])
 go_ret
 exact ⟨rfl, rfl⟩
theorem reckon_32 {m : Nat} {e : Int} (D : ∀ W, Calls Tryz.prog 119 #[.int .u64 (m : Int), .int .i64 e] W fun x w' => x = .returned (.float .f32 (exA 23 255 (-149) m e)) ∧ w' = W) (w : World) : Calls Tryz.prog 83 #[.int .u64 (m : Int), .int .i64 e, .int .i64 32] w fun x w' => x = .returned (.int .u64 ((exA 23 255 (-149) m e : Nat) : Int)) ∧ w' = w := by
 have l := exA_lt32 m e
 generalize exA 23 255 (-149) m e = R at *
 go_enter Tryz.func83, Tryz.ntmps83
 go_wp2_with fail
 refine (D _).mono ?_
 rintro x w1 ⟨rfl, rfl⟩
 go_wp2_with (simp only [f32bits])
 go_ret
 exact ⟨rfl, rfl⟩
def Xz (s : Int) (f T : Nat) (L : Int) (M K : Nat) : Prop := (s = 32 ∧ f = 23 ∧ T = 255 ∧ L = -149 ∧ M = 16777216 ∧ K = 10) ∨ (s = 64 ∧ f = 52 ∧ T = 2047 ∧ L = -1074 ∧ M = 9007199254740992 ∧ K = 22)
theorem reckon_ok {s : Int} {f T : Nat} {L : Int} {M K : Nat} (h : Xz s f T L M K) {m : Nat} {e : Int} (hm : m ≤ M) (h0 : -(K : Int) ≤ e) (h1 : e ≤ K) (hz : m = 0 → e = 0) (w : World) : Calls Tryz.prog 83 #[.int .u64 (m : Int), .int .i64 e, .int .i64 s] w fun x w' => x = .returned (.int .u64 ((exA f T L m e : Nat) : Int)) ∧ w' = w := by
 rcases h with ⟨rfl, rfl, rfl, rfl, rfl, rfl⟩ | ⟨rfl, rfl, rfl, rfl, rfl, rfl⟩
 · refine reckon_32 (fun W => ?_) w
   by_cases c : 0 ≤ e
   · obtain ⟨k, rfl⟩ : ∃ k : Nat, e = (k : Int) := ⟨e.toNat, by omega⟩
     exact single_up m k hm (by omega) (fun z => by have := hz z; omega) W
   · obtain ⟨k, rfl⟩ : ∃ k : Nat, e = -(k : Int) := ⟨(-e).toNat, by omega⟩
     exact single_dn m k hm (fun z => by have := hz z; omega) (by omega) (by omega) W
 · refine reckon_64 (fun W => ?_) w
   by_cases c : 0 ≤ e
   · obtain ⟨k, rfl⟩ : ∃ k : Nat, e = (k : Int) := ⟨e.toNat, by omega⟩
     exact double_up m k hm (by omega) (fun z => by have := hz z; omega) W
   · obtain ⟨k, rfl⟩ : ∃ k : Nat, e = -(k : Int) := ⟨(-e).toNat, by omega⟩
     exact double_dn m k hm (fun z => by have := hz z; omega) (by omega) (by omega) W
theorem most_ok {s : Int} {f T : Nat} {L : Int} {M K : Nat} (h : Xz s f T L M K) (w : World) : Calls Tryz.prog 82 #[.int .i64 s] w fun e w' => e = .returned (.tuple #[.int .u64 (M : Int), .int .i64 (K : Int), .nilIface]) ∧ w' = w := by
 rcases h with ⟨rfl, rfl, rfl, rfl, rfl, rfl⟩ | ⟨rfl, rfl, rfl, rfl, rfl, rfl⟩
 · go_enter Tryz.func82, Tryz.ntmps82
   go_wp2
   refine bodyPost_ret (v := .tuple #[.int .u64 16777216, .int .i64 10, .nilIface]) (by simp [results, Tryz.results82, go_sem]) rfl ⟨rfl, rfl⟩
 · go_enter Tryz.func82, Tryz.ntmps82
   go_wp2
   refine bodyPost_ret (v := .tuple #[.int .u64 9007199254740992, .int .i64 22, .nilIface]) (by simp [results, Tryz.results82, go_sem]) rfl ⟨rfl, rfl⟩
theorem xof_yes {s : Int} {f T : Nat} {L : Int} {M K : Nat} (h : Xz s f T L M K) {m : Nat} {e : Int} (m0 : m ≠ 0) (hm : m ≤ M) (h0 : -(K : Int) ≤ e) (h1 : e ≤ K) (w : World) : Calls Tryz.prog 49 #[.int .u64 (m : Int), .int .i64 e, .int .i64 s] w fun x w' => x = .returned (.tuple #[.int .u64 ((exA f T L m e : Nat) : Int), .bool true, .nilIface]) ∧ w' = w := by
 have T := fun W => most_ok h W
 have R := fun W => reckon_ok h hm h0 h1 (fun z => absurd z m0) W
 have c0 : ((m : Int) == 0) = false := by simp; omega
 have c1 : ¬ (M : Int) < (m : Int) := by omega
 have c2 : ¬ e < -(K : Int) := by omega
 have c3 : ¬ (K : Int) < e := by omega
 have hk : K ≤ 22 := by rcases h with ⟨_, _, _, _, _, q⟩ | ⟨_, _, _, _, _, q⟩ <;> omega
 clear h hm h0 h1 m0
 generalize exA f _ L m e = RR at *
 go_enter Tryz.func49, Tryz.ntmps49
 go_wp2_with fail
 refine (T _).mono ?_
 rintro x w1 ⟨rfl, rfl⟩
 go_wp2_with fail
 refine (R _).mono ?_
 rintro x w1 ⟨rfl, rfl⟩
 go_wp2
 refine bodyPost_ret (v := .tuple #[.int .u64 (RR : Int), .bool true, .nilIface]) (by simp [results, Tryz.results49, go_sem]) rfl ⟨rfl, rfl⟩
theorem xof_un {s : Int} {f T : Nat} {L : Int} {M K : Nat} (h : Xz s f T L M K) {m : Nat} {e : Int} (m0 : m ≠ 0) (hm : M < m ∨ e < -(K : Int) ∨ (K : Int) < e) (w : World) : Calls Tryz.prog 49 #[.int .u64 (m : Int), .int .i64 e, .int .i64 s] w fun x w' => x = .returned (.tuple #[.int .u64 0, .bool false, .nilIface]) ∧ w' = w := by
 have T := fun W => most_ok h W
 have c0 : ((m : Int) == 0) = false := by simp; omega
 have hk : K ≤ 22 := by rcases h with ⟨_, _, _, _, _, q⟩ | ⟨_, _, _, _, _, q⟩ <;> omega
 clear h m0
 by_cases c1 : (M : Int) < (m : Int)
 · clear hm
   go_enter Tryz.func49, Tryz.ntmps49
   go_wp2_with fail
   refine (T _).mono ?_
   rintro x w1 ⟨rfl, rfl⟩
   go_wp2
   refine bodyPost_ret (v := .tuple #[.int .u64 0, .bool false, .nilIface]) (by simp [results, Tryz.results49, go_sem]) rfl ⟨rfl, rfl⟩
 · by_cases c2 : e < -(K : Int)
   · clear hm
     go_enter Tryz.func49, Tryz.ntmps49
     go_wp2_with fail
     refine (T _).mono ?_
     rintro x w1 ⟨rfl, rfl⟩
     go_wp2
     refine bodyPost_ret (v := .tuple #[.int .u64 0, .bool false, .nilIface]) (by simp [results, Tryz.results49, go_sem]) rfl ⟨rfl, rfl⟩
   · have c3 : (K : Int) < e := by omega
     clear hm
     go_enter Tryz.func49, Tryz.ntmps49
     go_wp2_with fail
     refine (T _).mono ?_
     rintro x w1 ⟨rfl, rfl⟩
     go_wp2
     refine bodyPost_ret (v := .tuple #[.int .u64 0, .bool false, .nilIface]) (by simp [results, Tryz.results49, go_sem]) rfl ⟨rfl, rfl⟩
end Go.Proofs.YtiminkommimgdabGreatDoor
