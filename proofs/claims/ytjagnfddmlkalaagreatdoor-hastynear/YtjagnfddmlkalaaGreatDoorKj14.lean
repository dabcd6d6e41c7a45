/-
  Holds: VLen VDiv VDiv2.
-/
import Derived.Lib.ItoaNum
import Derived.Test.YtjagnfddmlkalaaGreatDoorRows
import Derived.Laws.Externs
import Derived.WalkKit
import Derived.WalkSpells
import Derived.WalkLawsBesides
import Derived.Lib.Mul64
import Derived.Test.YtjagnfddmlkalaaGreatDoorKj3
import Derived.Test.YtjagnfddmlkalaaGreatDoorKj13
set_option maxRecDepth 100000
set_option maxHeartbeats 4000000
namespace Go.Proofs.YtjagnfddmlkalaaGreatDoor
open Go.RowKit
theorem ret_i64 {a b : Int} (h : a = b) : Ending.returned (.int .i64 a) = .returned (.int .i64 b) := by rw [h]
theorem tab_fin (x b n : Int) (k K : Nat) (hn : n = k) (hK : K = 2 ^ k) (h0 : 0 ≤ x) (hx : x < 18446744073709551616) (hb : b = x / K) (hb1 : b ≤ 255) (hge : k = 0 ∨ (K : Int) ≤ x) (hk : k ≤ 56) (hlt : b.toNat < Lib.len8tab.size) :
 wrap64 (n + wrap64 (Lib.len8tab[b.toNat]'hlt).toNat) = blen x := by
 have hb0 : 0 ≤ b := by rw [hb]; exact Int.ediv_nonneg h0 (by omega)
 have e : ((Lib.len8tab[b.toNat]'hlt).toNat : Int) = Lib.len8 b := by
  unfold Lib.len8; rw [getElem?_pos Lib.len8tab b.toNat hlt]; rfl
 have l := Lib.bitLen_le8' b hb0 hb1
 have f := Lib.len8_of b hb0 hb1
 rw [e, IntWalk.wrap64_in (Lib.len8 b) ⟨by omega, by omega⟩, IntWalk.wrap64_in (n + Lib.len8 b) ⟨by omega, by omega⟩, hn]
 exact blen_fin x b k K hK h0 hx hb hb1 hge
theorem len64_any (x : Int) (h : Word x) (w : World) :
 Calls Tryz.prog 112 #[.int .u64 x] w fun e w' => e = .returned (.int .i64 (blen x)) ∧ w' = w := by
 obtain ⟨h0, h1⟩ := h
 have hs : Lib.len8tab.size = 256 := Lib.len8tab_size
 go_enter Tryz.func112, Tryz.ntmps112
 go_wp2
 all_goals go_ret
 all_goals refine ⟨ret_i64 ?_, rfl⟩
 · exact tab_fin x _ _ 56 72057594037927936 rfl (by decide) h0 h1 (by omega) (by omega) (Or.inr (by omega)) (by decide) _
 · exact tab_fin x _ _ 48 281474976710656 rfl (by decide) h0 h1 (by omega) (by omega) (Or.inr (by omega)) (by decide) _
 · exact tab_fin x _ _ 40 1099511627776 rfl (by decide) h0 h1 (by omega) (by omega) (Or.inr (by omega)) (by decide) _
 · exact tab_fin x _ _ 32 4294967296 rfl (by decide) h0 h1 (by omega) (by omega) (Or.inr (by omega)) (by decide) _
 · exact tab_fin x _ _ 24 16777216 rfl (by decide) h0 h1 (by omega) (by omega) (Or.inr (by omega)) (by decide) _
 · exact tab_fin x _ _ 16 65536 rfl (by decide) h0 h1 (by omega) (by omega) (Or.inr (by omega)) (by decide) _
 · exact tab_fin x _ _ 8 256 rfl (by decide) h0 h1 (by omega) (by omega) (Or.inr (by omega)) (by decide) _
 · have e := tab_fin x x 0 0 1 rfl (by decide) h0 h1 (by omega) (by omega) (Or.inl rfl) (by decide) (by rw [hs]; omega)
   rw [Int.zero_add] at e
   exact e
theorem lead64_any (x : Int) (h : Word x) (w : World) :
 Calls Tryz.prog 65 #[.int .u64 x] w fun e w' => e = .returned (.int .i64 (64 - blen x)) ∧ w' = w := by
 have hb := blen_01 x h.1 h.2
 go_enter Tryz.func65, Tryz.ntmps65
 go_wp2_with (go_at_call 112; refine (len64_any x h _).mono ?_; rintro e w' ⟨rfl, rfl⟩)
 go_ret
 exact ⟨rfl, rfl⟩
theorem mask_u64 {a : Int} (h : Word a) : bits .and .u64 a 4294967295 = a % 4294967296 := by
 obtain ⟨x, rfl⟩ := Int.eq_ofNat_of_zero_le h.1
 have h2 := h.2
 have e := bits_and_u64_nat x 4294967295 (by omega) (by omega)
 have f : x &&& 4294967295 = x % 4294967296 := Nat.and_two_pow_sub_one_eq_mod x 32
 rw [f] at e
 exact e.trans (by omega)
theorem norm_setup {hi lo y : Int} {n : Nat} (h1 : Word hi) (h2 : Word lo) (hlt : hi < y) (hn : n ≤ 63) (b3 : (2 : Int) ^ n ≤ y) (b4 : y < 2 ^ (n + 1)) :
 ∃ U L Y : Int, IntKind.u64.wrap (y * 2 ^ (63 - n)) = Y ∧ bits .or .u64 (IntKind.u64.wrap (hi * 2 ^ (63 - n))) (lo / 2 ^ (64 - (63 - n))) = U ∧ IntKind.u64.wrap (lo * 2 ^ (63 - n)) = L ∧
  Y = y * 2 ^ (63 - n) ∧ 9223372036854775808 ≤ Y ∧ Y < 18446744073709551616 ∧ 0 ≤ U ∧ U < Y ∧ 0 ≤ L ∧ L < 18446744073709551616 ∧ (hi * 18446744073709551616 + lo) * 2 ^ (63 - n) = U * 18446744073709551616 + L := by
 obtain ⟨a, rfl⟩ := Int.eq_ofNat_of_zero_le h1.1
 obtain ⟨b, rfl⟩ := Int.eq_ofNat_of_zero_le h2.1
 obtain ⟨c, rfl⟩ := Int.eq_ofNat_of_zero_le (by omega : 0 ≤ y)
 have hb2 := h2.2
 have g3 : 2 ^ n ≤ c := by exact_mod_cast b3
 have g4 : c < 2 ^ (n + 1) := by exact_mod_cast b4
 have p1 : 2 ^ n * 2 ^ (63 - n) = 9223372036854775808 := by rw [← Nat.pow_add, show n + (63 - n) = 63 by omega]
 have p2 : 2 ^ (n + 1) * 2 ^ (63 - n) = 18446744073709551616 := by rw [← Nat.pow_add, show n + 1 + (63 - n) = 64 by omega]
 have s0 : 0 < 2 ^ (63 - n) := Nat.pow_pos (by omega)
 have t1 : 64 - (63 - n) = n + 1 := by omega
 have i1 : 2 ^ n * 2 ^ (63 - n) ≤ c * 2 ^ (63 - n) := Nat.mul_le_mul_right _ g3
 have i2 : c * 2 ^ (63 - n) < 2 ^ (n + 1) * 2 ^ (63 - n) := Nat.mul_lt_mul_of_pos_right g4 s0
 have i3 : (a + 1) * 2 ^ (63 - n) ≤ c * 2 ^ (63 - n) := Nat.mul_le_mul_right _ (by omega)
 rw [Nat.add_mul, Nat.one_mul] at i3
 have i4 : b * 2 ^ (63 - n) / 18446744073709551616 = b / 2 ^ (n + 1) := by rw [← p2, Nat.mul_div_mul_right _ _ s0]
 have i5 : b / 2 ^ (n + 1) < 2 ^ (63 - n) := by
  rw [Nat.div_lt_iff_lt_mul (Nat.pow_pos (by omega)), Nat.mul_comm, p2]; omega
 have c1 : ((2 : Int) ^ (63 - n)) = ((2 ^ (63 - n) : Nat) : Int) := by push_cast; rfl
 have c2 : ((2 : Int) ^ (n + 1)) = ((2 ^ (n + 1) : Nat) : Int) := by push_cast; rfl
 have w1 : IntKind.u64.wrap ((c : Int) * 2 ^ (63 - n)) = ((c * 2 ^ (63 - n) : Nat) : Int) := by rw [c1, ← Int.natCast_mul, IntKind.wrap_u64]; omega
 have w2 : IntKind.u64.wrap ((a : Int) * 2 ^ (63 - n)) = ((a * 2 ^ (63 - n) : Nat) : Int) := by rw [c1, ← Int.natCast_mul, IntKind.wrap_u64]; omega
 have w3 : IntKind.u64.wrap ((b : Int) * 2 ^ (63 - n)) = ((b * 2 ^ (63 - n) % 18446744073709551616 : Nat) : Int) := by rw [c1, ← Int.natCast_mul, IntKind.wrap_u64]; omega
 have w4 : bits .or .u64 (IntKind.u64.wrap ((a : Int) * 2 ^ (63 - n))) ((b : Int) / 2 ^ (64 - (63 - n))) = ((a * 2 ^ (63 - n) + b / 2 ^ (n + 1) : Nat) : Int) := by
  have o := bits_or_u64_nat (a * 2 ^ (63 - n)) (b / 2 ^ (n + 1)) (by omega) (by omega)
  rw [w2, t1, c2, ← Int.natCast_ediv, o, Nat.mul_comm a, ← Nat.two_pow_add_eq_or_of_lt i5]
 refine ⟨_, _, _, w1, w4, w3, ?_, by omega, by omega, by omega, ?_, by omega, by omega, ?_⟩
 · rw [c1, ← Int.natCast_mul]
 · omega
 · rw [c1, Int.add_mul, Int.mul_right_comm, ← Int.natCast_mul, ← Int.natCast_mul]
   generalize a * 2 ^ (63 - n) = A at *
   generalize b * 2 ^ (63 - n) = E at *
   omega
theorem ret_ww {x x' y y' : Int} (hx : x = x') (hy : y = y') : Ending.returned (.tuple #[.int .u64 x, .int .u64 y]) = .returned (.tuple #[.int .u64 x', .int .u64 y']) := by rw [hx, hy]
theorem div64_core (hi lo y U L Y Y1 Y0 L1 L0 Q P T N Q2 P2 T2 R : Int) (n : Nat) (w : World)
 (_h1 : 0 ≤ hi) (_h2 : 0 ≤ lo) (h3 : Word y) (hlt : hi < y) (hz : (hi == 0) = false) (hy0 : (y == 0) = false) (b1 : blen y = (n : Int) + 1) (b2 : n ≤ 63)
 (e1 : IntKind.u64.wrap (y * 2 ^ (63 - n)) = Y) (e4 : bits .or .u64 (IntKind.u64.wrap (hi * 2 ^ (63 - n))) (lo / 2 ^ (64 - (63 - n))) = U) (e5 : IntKind.u64.wrap (lo * 2 ^ (63 - n)) = L)
 (e2 : Y / 4294967296 = Y1) (e3 : bits .and .u64 Y 4294967295 = Y0) (e6 : L / 4294967296 = L1) (e7 : bits .and .u64 L 4294967295 = L0)
 (u0 : 0 ≤ U) (y1 : 2147483648 ≤ Y1) (y1' : Y1 ≤ 4294967295) (l10 : 0 ≤ L1) (l11 : L1 ≤ 4294967295) (l00 : 0 ≤ L0) (l01 : L0 ≤ 4294967295) (_yy0 : 0 ≤ Y) (_ll0 : 0 ≤ L)
 (e8 : U / Y1 = Q) (e9 : Q * Y1 = P) (q0 : 0 ≤ Q) (q1 : Q ≤ 4294967297) (p0 : 0 ≤ P) (p1 : P ≤ U) (p2 : U - P < 4294967296) (p3 : U < 18446744073709551616)
 (D1 : Divd U L1 Y Y1 Y0) (t1 : qd U L1 Y = T) (t2 : T ≤ Q)
 (e10 : IntKind.u64.wrap (IntKind.u64.wrap (IntKind.u64.wrap (U * 4294967296) + L1) - IntKind.u64.wrap (T * Y)) = N)
 (n0 : 0 ≤ N) (e11 : N / Y1 = Q2) (e12 : Q2 * Y1 = P2) (q20 : 0 ≤ Q2) (q21 : Q2 ≤ 4294967297) (p20 : 0 ≤ P2) (p21 : P2 ≤ N) (p22 : N - P2 < 4294967296) (p23 : N < 18446744073709551616)
 (D2 : Divd N L0 Y Y1 Y0) (t3 : qd N L0 Y = T2) (t4 : T2 ≤ Q2)
 (e13 : IntKind.u64.wrap (IntKind.u64.wrap (IntKind.u64.wrap (N * 4294967296) + L0) - IntKind.u64.wrap (T2 * Y)) = R) (_r0 : 0 ≤ R) (_r1 : R < 18446744073709551616)
 (t10 : 0 ≤ T) (t11 : T ≤ 4294967295) (t20 : 0 ≤ T2) (t21 : T2 ≤ 4294967295) :
 Calls Tryz.prog 125 #[.int .u64 hi, .int .u64 lo, .int .u64 y] w fun e w' => e = .returned (.tuple #[.int .u64 (T * 4294967296 + T2), .int .u64 (R / 2 ^ (63 - n))]) ∧ w' = w := by
 go_enter Tryz.func125, Tryz.ntmps125
 go_wp2_with (go_at_call 65; refine (lead64_any y h3 _).mono ?_; rintro e w' ⟨rfl, rfl⟩)
 go_loop [15, 16] (fun a b => ∃ q r : Int, a = .int .u64 q ∧ b = .int .u64 r ∧ q * Y1 + r = U ∧ 0 ≤ q ∧ q ≤ 4294967297 ∧ 0 ≤ r ∧ r < 4294967296 ∧ T ≤ q) (fun a _ => (intOf a).toNat)
 case atStart => exact ⟨Q, U - P, by first | rfl | rw [e8], by first | rfl | rw [e8] | rw [e8, e9], by rw [e9]; omega, by omega, by omega, by omega, by omega, by omega⟩
 case round =>
  obtain ⟨q, r, rfl, rfl, hqr, a1, a2, a3, a4, a5⟩ := hrel
  have HQ : Hid (q * Y1 + r = U) := hqr
  clear hqr
  have hp := D1.prod a1 a2
  obtain ⟨p, hpp⟩ : ∃ p, q * Y0 = p := ⟨_, rfl⟩
  rw [hpp] at hp
  rcases (by omega : (4294967296 ≤ q ∧ r + Y1 < 4294967296) ∨ (4294967296 ≤ q ∧ 4294967296 ≤ r + Y1) ∨ (q < 4294967296 ∧ 4294967296 * r + L1 < p ∧ r + Y1 < 4294967296) ∨ (q < 4294967296 ∧ 4294967296 * r + L1 < p ∧ 4294967296 ≤ r + Y1) ∨ (q < 4294967296 ∧ p ≤ 4294967296 * r + L1)) with ⟨c1, c2⟩ | ⟨c1, c2⟩ | ⟨c1, c3, c2⟩ | ⟨c1, c3, c2⟩ | ⟨c1, c3⟩
  · have d1 := D1.down1 c1
    rw [t1] at d1
    go_wp2
    go_round
    case rel => exact ⟨q - 1, r + Y1, rfl, rfl, step_eq HQ.out, by omega, by omega, by omega, by omega, by omega⟩
    case measure => simp [intOf]; omega
  · have hT : q - 1 = T := (D1.broke (step_eq HQ.out) (D1.down1 c1) (by omega) (by omega)).trans t1
    go_wp2
    go_loop [18, 16] (fun a b => ∃ q r : Int, a = .int .u64 q ∧ b = .int .u64 r ∧ q * Y1 + r = N ∧ 0 ≤ q ∧ q ≤ 4294967297 ∧ 0 ≤ r ∧ r < 4294967296 ∧ T2 ≤ q) (fun a _ => (intOf a).toNat)
    case atStart => exact ⟨Q2, N - P2, by first | rfl | rw [e11], by first | rfl | rw [e11] | rw [e11, e12], by rw [e12]; omega, by omega, by omega, by omega, by omega, by omega⟩
    case round =>
     obtain ⟨q, r, rfl, rfl, hqr, a1, a2, a3, a4, a5⟩ := hrel
     have HQ : Hid (q * Y1 + r = N) := hqr
     clear hqr
     have hp := D2.prod a1 a2
     obtain ⟨p, hpp⟩ : ∃ p, q * Y0 = p := ⟨_, rfl⟩
     rw [hpp] at hp
     rcases (by omega : (4294967296 ≤ q ∧ r + Y1 < 4294967296) ∨ (4294967296 ≤ q ∧ 4294967296 ≤ r + Y1) ∨ (q < 4294967296 ∧ 4294967296 * r + L0 < p ∧ r + Y1 < 4294967296) ∨ (q < 4294967296 ∧ 4294967296 * r + L0 < p ∧ 4294967296 ≤ r + Y1) ∨ (q < 4294967296 ∧ p ≤ 4294967296 * r + L0)) with ⟨c1, c2⟩ | ⟨c1, c2⟩ | ⟨c1, c3, c2⟩ | ⟨c1, c3, c2⟩ | ⟨c1, c3⟩
     · have d1 := D2.down1 c1
       rw [t3] at d1
       go_wp2
       go_round
       case rel => exact ⟨q - 1, r + Y1, rfl, rfl, step_eq HQ.out, by omega, by omega, by omega, by omega, by omega⟩
       case measure => simp [intOf]; omega
     · have hT : q - 1 = T2 := (D2.broke (step_eq HQ.out) (D2.down1 c1) (by omega) (by omega)).trans t3
       go_wp2
       go_ret2
       exact ⟨ret_ww rfl rfl, rfl⟩
     · have d1 := D2.down2 HQ.out (by rw [hpp]; exact c3)
       rw [t3] at d1
       have g1 : decide (4294967296 ≤ q) = false := by simp; omega
       go_wp2
       go_round
       case rel => exact ⟨q - 1, r + Y1, rfl, rfl, step_eq HQ.out, by omega, by omega, by omega, by omega, by omega⟩
       case measure => simp [intOf]; omega
     · have hT : q - 1 = T2 := (D2.broke (step_eq HQ.out) (D2.down2 HQ.out (by rw [hpp]; exact c3)) (by omega) (by omega)).trans t3
       have g1 : decide (4294967296 ≤ q) = false := by simp; omega
       go_wp2
       go_ret2
       exact ⟨ret_ww rfl rfl, rfl⟩
     · have hT : T2 = q := ((D2.done HQ.out (by rw [t3]; exact a5) (by rw [hpp]; exact c3)).trans t3).symm
       have g1 : decide (4294967296 ≤ q) = false := by simp; omega
       subst hT
       go_wp2
       go_ret2
       exact ⟨ret_ww rfl rfl, rfl⟩
  · have d1 := D1.down2 HQ.out (by rw [hpp]; exact c3)
    rw [t1] at d1
    have g1 : decide (4294967296 ≤ q) = false := by simp; omega
    go_wp2
    go_round
    case rel => exact ⟨q - 1, r + Y1, rfl, rfl, step_eq HQ.out, by omega, by omega, by omega, by omega, by omega⟩
    case measure => simp [intOf]; omega
  · have hT : q - 1 = T := (D1.broke (step_eq HQ.out) (D1.down2 HQ.out (by rw [hpp]; exact c3)) (by omega) (by omega)).trans t1
    have g1 : decide (4294967296 ≤ q) = false := by simp; omega
    go_wp2
    go_loop [18, 16] (fun a b => ∃ q r : Int, a = .int .u64 q ∧ b = .int .u64 r ∧ q * Y1 + r = N ∧ 0 ≤ q ∧ q ≤ 4294967297 ∧ 0 ≤ r ∧ r < 4294967296 ∧ T2 ≤ q) (fun a _ => (intOf a).toNat)
    case atStart => exact ⟨Q2, N - P2, by first | rfl | rw [e11], by first | rfl | rw [e11] | rw [e11, e12], by rw [e12]; omega, by omega, by omega, by omega, by omega, by omega⟩
    case round =>
     obtain ⟨q, r, rfl, rfl, hqr, a1, a2, a3, a4, a5⟩ := hrel
     have HQ : Hid (q * Y1 + r = N) := hqr
     clear hqr
     have hp := D2.prod a1 a2
     obtain ⟨p, hpp⟩ : ∃ p, q * Y0 = p := ⟨_, rfl⟩
     rw [hpp] at hp
     rcases (by omega : (4294967296 ≤ q ∧ r + Y1 < 4294967296) ∨ (4294967296 ≤ q ∧ 4294967296 ≤ r + Y1) ∨ (q < 4294967296 ∧ 4294967296 * r + L0 < p ∧ r + Y1 < 4294967296) ∨ (q < 4294967296 ∧ 4294967296 * r + L0 < p ∧ 4294967296 ≤ r + Y1) ∨ (q < 4294967296 ∧ p ≤ 4294967296 * r + L0)) with ⟨c1, c2⟩ | ⟨c1, c2⟩ | ⟨c1, c3, c2⟩ | ⟨c1, c3, c2⟩ | ⟨c1, c3⟩
     · have d1 := D2.down1 c1
       rw [t3] at d1
       go_wp2
       go_round
       case rel => exact ⟨q - 1, r + Y1, rfl, rfl, step_eq HQ.out, by omega, by omega, by omega, by omega, by omega⟩
       case measure => simp [intOf]; omega
     · have hT : q - 1 = T2 := (D2.broke (step_eq HQ.out) (D2.down1 c1) (by omega) (by omega)).trans t3
       go_wp2
       go_ret2
       exact ⟨ret_ww rfl rfl, rfl⟩
     · have d1 := D2.down2 HQ.out (by rw [hpp]; exact c3)
       rw [t3] at d1
       have g1 : decide (4294967296 ≤ q) = false := by simp; omega
       go_wp2
       go_round
       case rel => exact ⟨q - 1, r + Y1, rfl, rfl, step_eq HQ.out, by omega, by omega, by omega, by omega, by omega⟩
       case measure => simp [intOf]; omega
     · have hT : q - 1 = T2 := (D2.broke (step_eq HQ.out) (D2.down2 HQ.out (by rw [hpp]; exact c3)) (by omega) (by omega)).trans t3
       have g1 : decide (4294967296 ≤ q) = false := by simp; omega
       go_wp2
       go_ret2
       exact ⟨ret_ww rfl rfl, rfl⟩
     · have hT : T2 = q := ((D2.done HQ.out (by rw [t3]; exact a5) (by rw [hpp]; exact c3)).trans t3).symm
       have g1 : decide (4294967296 ≤ q) = false := by simp; omega
       subst hT
       go_wp2
       go_ret2
       exact ⟨ret_ww rfl rfl, rfl⟩
  · have hT : T = q := ((D1.done HQ.out (by rw [t1]; exact a5) (by rw [hpp]; exact c3)).trans t1).symm
    have g1 : decide (4294967296 ≤ q) = false := by simp; omega
    subst hT
    go_wp2
    go_loop [18, 16] (fun a b => ∃ q r : Int, a = .int .u64 q ∧ b = .int .u64 r ∧ q * Y1 + r = N ∧ 0 ≤ q ∧ q ≤ 4294967297 ∧ 0 ≤ r ∧ r < 4294967296 ∧ T2 ≤ q) (fun a _ => (intOf a).toNat)
    case atStart => exact ⟨Q2, N - P2, by first | rfl | rw [e11], by first | rfl | rw [e11] | rw [e11, e12], by rw [e12]; omega, by omega, by omega, by omega, by omega, by omega⟩
    case round =>
     obtain ⟨q, r, rfl, rfl, hqr, a1, a2, a3, a4, a5⟩ := hrel
     have HQ : Hid (q * Y1 + r = N) := hqr
     clear hqr
     have hp := D2.prod a1 a2
     obtain ⟨p, hpp⟩ : ∃ p, q * Y0 = p := ⟨_, rfl⟩
     rw [hpp] at hp
     rcases (by omega : (4294967296 ≤ q ∧ r + Y1 < 4294967296) ∨ (4294967296 ≤ q ∧ 4294967296 ≤ r + Y1) ∨ (q < 4294967296 ∧ 4294967296 * r + L0 < p ∧ r + Y1 < 4294967296) ∨ (q < 4294967296 ∧ 4294967296 * r + L0 < p ∧ 4294967296 ≤ r + Y1) ∨ (q < 4294967296 ∧ p ≤ 4294967296 * r + L0)) with ⟨c1, c2⟩ | ⟨c1, c2⟩ | ⟨c1, c3, c2⟩ | ⟨c1, c3, c2⟩ | ⟨c1, c3⟩
     · have d1 := D2.down1 c1
       rw [t3] at d1
       go_wp2
       go_round
       case rel => exact ⟨q - 1, r + Y1, rfl, rfl, step_eq HQ.out, by omega, by omega, by omega, by omega, by omega⟩
       case measure => simp [intOf]; omega
     · have hT : q - 1 = T2 := (D2.broke (step_eq HQ.out) (D2.down1 c1) (by omega) (by omega)).trans t3
       go_wp2
       go_ret2
       exact ⟨ret_ww rfl rfl, rfl⟩
     · have d1 := D2.down2 HQ.out (by rw [hpp]; exact c3)
       rw [t3] at d1
       have g1 : decide (4294967296 ≤ q) = false := by simp; omega
       go_wp2
       go_round
       case rel => exact ⟨q - 1, r + Y1, rfl, rfl, step_eq HQ.out, by omega, by omega, by omega, by omega, by omega⟩
       case measure => simp [intOf]; omega
     · have hT : q - 1 = T2 := (D2.broke (step_eq HQ.out) (D2.down2 HQ.out (by rw [hpp]; exact c3)) (by omega) (by omega)).trans t3
       have g1 : decide (4294967296 ≤ q) = false := by simp; omega
       go_wp2
       go_ret2
       exact ⟨ret_ww rfl rfl, rfl⟩
     · have hT : T2 = q := ((D2.done HQ.out (by rw [t3]; exact a5) (by rw [hpp]; exact c3)).trans t3).symm
       have g1 : decide (4294967296 ≤ q) = false := by simp; omega
       subst hT
       go_wp2
       go_ret2
       exact ⟨ret_ww rfl rfl, rfl⟩
end Go.Proofs.YtjagnfddmlkalaaGreatDoor
