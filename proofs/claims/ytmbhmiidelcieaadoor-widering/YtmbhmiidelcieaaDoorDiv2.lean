/-
  The walk of math/bits.Div64, for all words hi, lo, y with hi below y.
-/
import Derived.Test.YtmbhmiidelcieaaDoorDiv
namespace Go.Proofs.YtmbhmiidelcieaaDoor
open Go.RowKit

theorem ret_ww {x x' y y' : Int} (hx : x = x') (hy : y = y') : Ending.returned (.tuple #[.int .u64 x, .int .u64 y]) = .returned (.tuple #[.int .u64 x', .int .u64 y']) := by rw [hx, hy]

set_option maxHeartbeats 4000000 in
theorem div64_core (hi lo y U L Y Y1 Y0 L1 L0 Q P T N Q2 P2 T2 R : Int) (n : Nat) (w : World)
    (_h1 : 0 ≤ hi) (_h2 : 0 ≤ lo) (h3 : Word y) (hlt : hi < y) (hz : (hi == 0) = false) (hy0 : (y == 0) = false) (b1 : blen y = (n : Int) + 1) (b2 : n ≤ 63)
    (e1 : IntKind.u64.wrap (y * 2 ^ (63 - n)) = Y) (e4 : bits .or .u64 (IntKind.u64.wrap (hi * 2 ^ (63 - n))) (lo / 2 ^ (64 - (63 - n))) = U) (e5 : IntKind.u64.wrap (lo * 2 ^ (63 - n)) = L)
    (e2 : Y / 4294967296 = Y1) (e3 : bits .and .u64 Y 4294967295 = Y0) (e6 : L / 4294967296 = L1) (e7 : bits .and .u64 L 4294967295 = L0)
    (u0 : 0 ≤ U) (y1 : 2147483648 ≤ Y1) (y1' : Y1 ≤ 4294967295) (l10 : 0 ≤ L1) (l11 : L1 ≤ 4294967295) (l00 : 0 ≤ L0) (l01 : L0 ≤ 4294967295) (_yy0 : 0 ≤ Y) (_ll0 : 0 ≤ L)
    (e8 : U / Y1 = Q) (e9 : Q * Y1 = P) (q0 : 0 ≤ Q) (q1 : Q ≤ 4294967297) (p0 : 0 ≤ P) (p1 : P ≤ U) (p2 : U - P < 4294967296) (p3 : U < 18446744073709551616)
    (D1 : Divd U L1 Y Y1 Y0) (t1 : qd U L1 Y = T) (t2 : T ≤ Q)
    (e10 : IntKind.u64.wrap (IntKind.u64.wrap (IntKind.u64.wrap (U * 4294967296) + L1) - IntKind.u64.wrap (T * Y)) = N)
    (n0 : 0 ≤ N) (e11 : N / Y1 = Q2) (e12 : Q2 * Y1 = P2) (q20 : 0 ≤ Q2) (q21 : Q2 ≤ 4294967297) (p20 : 0 ≤ P2) (p21 : P2 ≤ N) (p22 : N - P2 < 4294967296) (p23 : N < 18446744073709551616)
    (D2 : Divd N L0 Y Y1 Y0) (t3 : qd N L0 Y = T2) (t4 : T2 ≤ Q2)
    (e13 : IntKind.u64.wrap (IntKind.u64.wrap (IntKind.u64.wrap (N * 4294967296) + L0) - IntKind.u64.wrap (T2 * Y)) = R) (_r0 : 0 ≤ R) (_r1 : R < 18446744073709551616)
    (t10 : 0 ≤ T) (t11 : T ≤ 4294967295) (t20 : 0 ≤ T2) (t21 : T2 ≤ 4294967295) :
    Calls Tryd.prog 42 #[.int .u64 hi, .int .u64 lo, .int .u64 y] w fun e w' => e = .returned (.tuple #[.int .u64 (T * 4294967296 + T2), .int .u64 (R / 2 ^ (63 - n))]) ∧ w' = w := by
  go_enter Tryd.func42, Tryd.ntmps42
  go_wp2_with (go_at_call 28; refine (lead64_any y h3 _).mono ?_; rintro e w' ⟨rfl, rfl⟩)
  go_loop [15, 16] (fun a b => ∃ q r : Int, a = .int .u64 q ∧ b = .int .u64 r ∧ q * Y1 + r = U ∧ 0 ≤ q ∧ q ≤ 4294967297 ∧ 0 ≤ r ∧ r < 4294967296 ∧ T ≤ q) (fun a _ => (intOf a).toNat)
  case atStart => exact ⟨Q, U - P, by first | rfl | rw [e8], by first | rfl | rw [e8] | rw [e8, e9], by rw [e9]; omega, by omega, by omega, by omega, by omega, by omega⟩
  case round =>
    obtain ⟨q, r, rfl, rfl, hqr, a1, a2, a3, a4, a5⟩ := hrel
    have HQ : Hid (q * Y1 + r = U) := hqr
    clear hqr
    have hp := D1.prod a1 a2
    obtain ⟨p, hpp⟩ : ∃ p, q * Y0 = p := ⟨_, rfl⟩
    rw [hpp] at hp
    rcases (by omega : (4294967296 ≤ q ∧ r + Y1 < 4294967296) ∨ (4294967296 ≤ q ∧ 4294967296 ≤ r + Y1) ∨ (q < 4294967296 ∧ 4294967296 * r + L1 < p ∧ r + Y1 < 4294967296) ∨ (q < 4294967296 ∧ 4294967296 * r + L1 < p ∧ 4294967296 ≤ r + Y1) ∨ (q < 4294967296 ∧ p ≤ 4294967296 * r + L1)) with ⟨c1, c2⟩ | ⟨c1, c2⟩ | ⟨c1, c3, c2⟩ | ⟨c1, c3, c2⟩ | ⟨c1, c3⟩
    · have d1 := D1.down1 c1
      rw [t1] at d1
      go_wp2
      go_round
      case rel => exact ⟨q - 1, r + Y1, rfl, rfl, step_eq HQ.out, by omega, by omega, by omega, by omega, by omega⟩
      case measure => simp [intOf]; omega
    · have hT : q - 1 = T := (D1.broke (step_eq HQ.out) (D1.down1 c1) (by omega) (by omega)).trans t1
      go_wp2
      go_loop [18, 16] (fun a b => ∃ q r : Int, a = .int .u64 q ∧ b = .int .u64 r ∧ q * Y1 + r = N ∧ 0 ≤ q ∧ q ≤ 4294967297 ∧ 0 ≤ r ∧ r < 4294967296 ∧ T2 ≤ q) (fun a _ => (intOf a).toNat)
      case atStart => exact ⟨Q2, N - P2, by first | rfl | rw [e11], by first | rfl | rw [e11] | rw [e11, e12], by rw [e12]; omega, by omega, by omega, by omega, by omega, by omega⟩
      case round =>
        obtain ⟨q, r, rfl, rfl, hqr, a1, a2, a3, a4, a5⟩ := hrel
        have HQ : Hid (q * Y1 + r = N) := hqr
        clear hqr
        have hp := D2.prod a1 a2
        obtain ⟨p, hpp⟩ : ∃ p, q * Y0 = p := ⟨_, rfl⟩
        rw [hpp] at hp
        rcases (by omega : (4294967296 ≤ q ∧ r + Y1 < 4294967296) ∨ (4294967296 ≤ q ∧ 4294967296 ≤ r + Y1) ∨ (q < 4294967296 ∧ 4294967296 * r + L0 < p ∧ r + Y1 < 4294967296) ∨ (q < 4294967296 ∧ 4294967296 * r + L0 < p ∧ 4294967296 ≤ r + Y1) ∨ (q < 4294967296 ∧ p ≤ 4294967296 * r + L0)) with ⟨c1, c2⟩ | ⟨c1, c2⟩ | ⟨c1, c3, c2⟩ | ⟨c1, c3, c2⟩ | ⟨c1, c3⟩
        · have d1 := D2.down1 c1
          rw [t3] at d1
          go_wp2
          go_round
          case rel => exact ⟨q - 1, r + Y1, rfl, rfl, step_eq HQ.out, by omega, by omega, by omega, by omega, by omega⟩
          case measure => simp [intOf]; omega
        · have hT : q - 1 = T2 := (D2.broke (step_eq HQ.out) (D2.down1 c1) (by omega) (by omega)).trans t3
          go_wp2
          go_ret2
          exact ⟨ret_ww rfl rfl, rfl⟩
        · have d1 := D2.down2 HQ.out (by rw [hpp]; exact c3)
          rw [t3] at d1
          have g1 : decide (4294967296 ≤ q) = false := by simp; omega
          go_wp2
          go_round
          case rel => exact ⟨q - 1, r + Y1, rfl, rfl, step_eq HQ.out, by omega, by omega, by omega, by omega, by omega⟩
          case measure => simp [intOf]; omega
        · have hT : q - 1 = T2 := (D2.broke (step_eq HQ.out) (D2.down2 HQ.out (by rw [hpp]; exact c3)) (by omega) (by omega)).trans t3
          have g1 : decide (4294967296 ≤ q) = false := by simp; omega
          go_wp2
          go_ret2
          exact ⟨ret_ww rfl rfl, rfl⟩
        · have hT : T2 = q := ((D2.done HQ.out (by rw [t3]; exact a5) (by rw [hpp]; exact c3)).trans t3).symm
          have g1 : decide (4294967296 ≤ q) = false := by simp; omega
          subst hT
          go_wp2
          go_ret2
          exact ⟨ret_ww rfl rfl, rfl⟩
    · have d1 := D1.down2 HQ.out (by rw [hpp]; exact c3)
      rw [t1] at d1
      have g1 : decide (4294967296 ≤ q) = false := by simp; omega
      go_wp2
      go_round
      case rel => exact ⟨q - 1, r + Y1, rfl, rfl, step_eq HQ.out, by omega, by omega, by omega, by omega, by omega⟩
      case measure => simp [intOf]; omega
    · have hT : q - 1 = T := (D1.broke (step_eq HQ.out) (D1.down2 HQ.out (by rw [hpp]; exact c3)) (by omega) (by omega)).trans t1
      have g1 : decide (4294967296 ≤ q) = false := by simp; omega
      go_wp2
      go_loop [18, 16] (fun a b => ∃ q r : Int, a = .int .u64 q ∧ b = .int .u64 r ∧ q * Y1 + r = N ∧ 0 ≤ q ∧ q ≤ 4294967297 ∧ 0 ≤ r ∧ r < 4294967296 ∧ T2 ≤ q) (fun a _ => (intOf a).toNat)
      case atStart => exact ⟨Q2, N - P2, by first | rfl | rw [e11], by first | rfl | rw [e11] | rw [e11, e12], by rw [e12]; omega, by omega, by omega, by omega, by omega, by omega⟩
      case round =>
        obtain ⟨q, r, rfl, rfl, hqr, a1, a2, a3, a4, a5⟩ := hrel
        have HQ : Hid (q * Y1 + r = N) := hqr
        clear hqr
        have hp := D2.prod a1 a2
        obtain ⟨p, hpp⟩ : ∃ p, q * Y0 = p := ⟨_, rfl⟩
        rw [hpp] at hp
        rcases (by omega : (4294967296 ≤ q ∧ r + Y1 < 4294967296) ∨ (4294967296 ≤ q ∧ 4294967296 ≤ r + Y1) ∨ (q < 4294967296 ∧ 4294967296 * r + L0 < p ∧ r + Y1 < 4294967296) ∨ (q < 4294967296 ∧ 4294967296 * r + L0 < p ∧ 4294967296 ≤ r + Y1) ∨ (q < 4294967296 ∧ p ≤ 4294967296 * r + L0)) with ⟨c1, c2⟩ | ⟨c1, c2⟩ | ⟨c1, c3, c2⟩ | ⟨c1, c3, c2⟩ | ⟨c1, c3⟩
        · have d1 := D2.down1 c1
          rw [t3] at d1
          go_wp2
          go_round
          case rel => exact ⟨q - 1, r + Y1, rfl, rfl, step_eq HQ.out, by omega, by omega, by omega, by omega, by omega⟩
          case measure => simp [intOf]; omega
        · have hT : q - 1 = T2 := (D2.broke (step_eq HQ.out) (D2.down1 c1) (by omega) (by omega)).trans t3
          go_wp2
          go_ret2
          exact ⟨ret_ww rfl rfl, rfl⟩
        · have d1 := D2.down2 HQ.out (by rw [hpp]; exact c3)
          rw [t3] at d1
          have g1 : decide (4294967296 ≤ q) = false := by simp; omega
          go_wp2
          go_round
          case rel => exact ⟨q - 1, r + Y1, rfl, rfl, step_eq HQ.out, by omega, by omega, by omega, by omega, by omega⟩
          case measure => simp [intOf]; omega
        · have hT : q - 1 = T2 := (D2.broke (step_eq HQ.out) (D2.down2 HQ.out (by rw [hpp]; exact c3)) (by omega) (by omega)).trans t3
          have g1 : decide (4294967296 ≤ q) = false := by simp; omega
          go_wp2
          go_ret2
          exact ⟨ret_ww rfl rfl, rfl⟩
        · have hT : T2 = q := ((D2.done HQ.out (by rw [t3]; exact a5) (by rw [hpp]; exact c3)).trans t3).symm
          have g1 : decide (4294967296 ≤ q) = false := by simp; omega
          subst hT
          go_wp2
          go_ret2
          exact ⟨ret_ww rfl rfl, rfl⟩
    · have hT : T = q := ((D1.done HQ.out (by rw [t1]; exact a5) (by rw [hpp]; exact c3)).trans t1).symm
      have g1 : decide (4294967296 ≤ q) = false := by simp; omega
      subst hT
      go_wp2
      go_loop [18, 16] (fun a b => ∃ q r : Int, a = .int .u64 q ∧ b = .int .u64 r ∧ q * Y1 + r = N ∧ 0 ≤ q ∧ q ≤ 4294967297 ∧ 0 ≤ r ∧ r < 4294967296 ∧ T2 ≤ q) (fun a _ => (intOf a).toNat)
      case atStart => exact ⟨Q2, N - P2, by first | rfl | rw [e11], by first | rfl | rw [e11] | rw [e11, e12], by rw [e12]; omega, by omega, by omega, by omega, by omega, by omega⟩
      case round =>
        obtain ⟨q, r, rfl, rfl, hqr, a1, a2, a3, a4, a5⟩ := hrel
        have HQ : Hid (q * Y1 + r = N) := hqr
        clear hqr
        have hp := D2.prod a1 a2
        obtain ⟨p, hpp⟩ : ∃ p, q * Y0 = p := ⟨_, rfl⟩
        rw [hpp] at hp
        rcases (by omega : (4294967296 ≤ q ∧ r + Y1 < 4294967296) ∨ (4294967296 ≤ q ∧ 4294967296 ≤ r + Y1) ∨ (q < 4294967296 ∧ 4294967296 * r + L0 < p ∧ r + Y1 < 4294967296) ∨ (q < 4294967296 ∧ 4294967296 * r + L0 < p ∧ 4294967296 ≤ r + Y1) ∨ (q < 4294967296 ∧ p ≤ 4294967296 * r + L0)) with ⟨c1, c2⟩ | ⟨c1, c2⟩ | ⟨c1, c3, c2⟩ | ⟨c1, c3, c2⟩ | ⟨c1, c3⟩
        · have d1 := D2.down1 c1
          rw [t3] at d1
          go_wp2
          go_round
          case rel => exact ⟨q - 1, r + Y1, rfl, rfl, step_eq HQ.out, by omega, by omega, by omega, by omega, by omega⟩
          case measure => simp [intOf]; omega
        · have hT : q - 1 = T2 := (D2.broke (step_eq HQ.out) (D2.down1 c1) (by omega) (by omega)).trans t3
          go_wp2
          go_ret2
          exact ⟨ret_ww rfl rfl, rfl⟩
        · have d1 := D2.down2 HQ.out (by rw [hpp]; exact c3)
          rw [t3] at d1
          have g1 : decide (4294967296 ≤ q) = false := by simp; omega
          go_wp2
          go_round
          case rel => exact ⟨q - 1, r + Y1, rfl, rfl, step_eq HQ.out, by omega, by omega, by omega, by omega, by omega⟩
          case measure => simp [intOf]; omega
        · have hT : q - 1 = T2 := (D2.broke (step_eq HQ.out) (D2.down2 HQ.out (by rw [hpp]; exact c3)) (by omega) (by omega)).trans t3
          have g1 : decide (4294967296 ≤ q) = false := by simp; omega
          go_wp2
          go_ret2
          exact ⟨ret_ww rfl rfl, rfl⟩
        · have hT : T2 = q := ((D2.done HQ.out (by rw [t3]; exact a5) (by rw [hpp]; exact c3)).trans t3).symm
          have g1 : decide (4294967296 ≤ q) = false := by simp; omega
          subst hT
          go_wp2
          go_ret2
          exact ⟨ret_ww rfl rfl, rfl⟩

end Go.Proofs.YtmbhmiidelcieaaDoor
