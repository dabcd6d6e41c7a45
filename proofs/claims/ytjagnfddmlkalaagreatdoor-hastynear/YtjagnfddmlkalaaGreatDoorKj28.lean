/-
  Holds: SoD QkM HaM QkP HaA HaB IvL FxM.
-/
import Derived.Test.YtjagnfddmlkalaaGreatDoorRows
import Derived.Laws.Externs
import Derived.WalkKit
import Derived.WalkSpells
import Derived.WalkLawsBesides
import Derived.Lib.Mul64
import Derived.Stop.Asserts
import Derived.RowKitTokens
import Derived.Lib.Strings
import Derived.Lib.BufferWrite
import Derived.Deep.OwnRows
import Derived.Deep.RegionHeld3
import Derived.BigQuiet
import Derived.Lib.ConvBytes
import Derived.Laws.CopyOwn
import Derived.Lib.TrailingZeros
import Derived.Lib.ItoaNum
import Derived.Deep.LoopGhost
import Derived.Deep.AppendLies
import Derived.Deep.DeepCutAuto
import Derived.Test.YtjagnfddmlkalaaGreatDoorKj26
import Derived.Test.YtjagnfddmlkalaaGreatDoorKj27
set_option maxRecDepth 100000
set_option maxHeartbeats 4000000
namespace Go.Proofs.YtjagnfddmlkalaaGreatDoor
open Go.RowKit
def dnU (X S : Nat) : Nat := X / S * S
def upU (X S : Nat) : Nat := (X + (S - 1)) / S * S
def rnB (X S : Nat) : Bool := decide (S < 2 * (X % S) ∨ (2 * (X % S) = S ∧ X / S % 2 = 1))
def rnU (X S : Nat) : Nat := if rnB X S then upU X S else dnU X S
theorem up_is {X S : Nat} (S0 : 0 < S) (h : 0 < X % S) : upU X S = dnU X S + S := by
 unfold upU dnU
 rw [up_some S0 h, Nat.add_mul, Nat.one_mul]
theorem cnt_exact {g D M T F : Nat} (h : g * T = M * D) (T0 : 0 < T) (D0 : 0 < D) : F * g / D = F * M / T ∧ (F * g % D = 0 ↔ F * M % T = 0) := by
 have e : F * g * T = F * M * D := by rw [Nat.mul_assoc, h, Nat.mul_assoc]
 have dm := Nat.div_add_mod (F * M) T
 have ml := Nat.mod_lt (F * M) T0
 generalize F * M / T = w at *
 generalize F * M % T = s at *
 have e2 : F * g * T = (w * D) * T + s * D := by rw [e, ← dm, Nat.add_mul]; congr 1; ac_rfl
 have lo : w * D ≤ F * g := Nat.le_of_mul_le_mul_right (by omega : w * D * T ≤ F * g * T) T0
 have sl : s * D < T * D := Nat.mul_lt_mul_of_pos_right ml D0
 have hi : F * g < (w + 1) * D := by
  refine Nat.lt_of_mul_lt_mul_right (a := T) ?_
  rw [Nat.add_mul, Nat.one_mul, Nat.add_mul, e2, Nat.mul_comm D T]
  omega
 have q : F * g / D = w := Nat.div_eq_of_lt_le lo hi
 refine ⟨q, ?_⟩
 have dq := Nat.div_add_mod (F * g) D
 rw [q, Nat.mul_comm] at dq
 constructor
 · intro z
   rw [z, Nat.add_zero] at dq
   rw [← dq] at e2
   have : s * D = 0 := by omega
   rcases Nat.mul_eq_zero.1 this with c | c <;> omega
 · intro z
   rw [z, Nat.zero_mul, Nat.add_zero] at e2
   have := Nat.eq_of_mul_eq_mul_right T0 e2
   omega
theorem cnt_ends {g D M T F : Nat} (h1 : M * D < g * T) (h2 : g * T < (M + 1) * D) (F0 : 0 < F) : F * M * D < F * g * T ∧ F * g * T < (F * M + F) * D := by
 constructor
 · rw [Nat.mul_assoc, Nat.mul_assoc]; exact Nat.mul_lt_mul_of_pos_left h1 F0
 · rw [Nat.mul_assoc, ← Nat.mul_succ, Nat.mul_assoc]; exact Nat.mul_lt_mul_of_pos_left h2 F0
theorem cnt_same {g D M T F : Nat} (h1 : M * D < g * T) (h2 : g * T < (M + 1) * D) (F0 : 0 < F) (T0 : 0 < T) (e : (F * M + F) / T = F * M / T) : F * g / D = F * M / T ∧ F * g % D ≠ 0 := by
 obtain ⟨a, b⟩ := cnt_ends h1 h2 F0
 have D0 : 0 < D := by
  rcases Nat.eq_zero_or_pos D with z | z
  · rw [z, Nat.mul_zero] at b; omega
  · exact z
 have dm := Nat.div_add_mod (F * M) T
 have dn := Nat.div_add_mod (F * M + F) T
 have ml := Nat.mod_lt (F * M + F) T0
 rw [e] at dn
 generalize F * M / T = w at *
 have lo : w * D < F * g := by
  refine Nat.lt_of_mul_lt_mul_right (a := T) (Nat.lt_of_le_of_lt ?_ a)
  rw [Nat.mul_right_comm, Nat.mul_comm w T]
  exact Nat.mul_le_mul_right D (by omega)
 have hi : F * g < (w + 1) * D := by
  refine Nat.lt_of_mul_lt_mul_right (a := T) (Nat.lt_of_lt_of_le b ?_)
  rw [Nat.mul_right_comm (w + 1) D T, Nat.add_mul w, Nat.one_mul, Nat.mul_comm w T]
  exact Nat.mul_le_mul_right D (by omega)
 have q : F * g / D = w := Nat.div_eq_of_lt_le (Nat.le_of_lt lo) hi
 refine ⟨q, fun z => ?_⟩
 have dq := Nat.div_add_mod (F * g) D
 rw [q, z, Nat.mul_comm] at dq
 omega
theorem cnt_five {g D M T F : Nat} (h1 : M * D < g * T) (h2 : g * T < (M + 1) * D) (F0 : 0 < F) (FT : F ≤ T) (ne : (F * M + F) / T ≠ F * M / T) (dv : F * g % D = 0) : F * g / D = (F * M + F) / T ∧ (F * M + F) / T = F * M / T + 1 := by
 obtain ⟨a, b⟩ := cnt_ends h1 h2 F0
 have T0 : 0 < T := by omega
 have dm := Nat.div_add_mod (F * M) T
 have ml1 := Nat.mod_lt (F * M) T0
 have n1 : (F * M + F) / T = F * M / T + 1 := by
  have up : (F * M + F) / T < F * M / T + 2 := by
   rw [Nat.div_lt_iff_lt_mul T0, Nat.add_mul, Nat.mul_comm (F * M / T) T]
   omega
  have dn : F * M / T ≤ (F * M + F) / T := Nat.div_le_div_right (by omega)
  omega
 have dn := Nat.div_add_mod (F * M + F) T
 have ml := Nat.mod_lt (F * M + F) T0
 have dq := Nat.div_add_mod (F * g) D
 rw [dv, Nat.add_zero] at dq
 refine ⟨?_, n1⟩
 rw [n1] at dn ⊢
 generalize F * M / T = w at *
 generalize F * g / D = c at *
 rw [← dq] at a b
 have D0 : 0 < D := by
  rcases Nat.eq_zero_or_pos D with z | z
  · rw [z, Nat.mul_zero] at b; omega
  · exact z
 have a' : F * M < c * T := by
  refine Nat.lt_of_mul_lt_mul_right (a := D) ?_
  rw [show c * T * D = D * c * T by ac_rfl]; exact a
 have b' : c * T < F * M + F := by
  refine Nat.lt_of_mul_lt_mul_right (a := D) ?_
  rw [show c * T * D = D * c * T by ac_rfl]; exact b
 have c1 : w < c := by
  refine Nat.lt_of_mul_lt_mul_right (a := T) ?_
  rw [Nat.mul_comm w T]; omega
 have c2 : c < w + 2 := by
  refine Nat.lt_of_mul_lt_mul_right (a := T) ?_
  rw [show (w + 2) * T = T * (w + 1) + T by rw [Nat.mul_comm, Nat.mul_add, Nat.mul_add]; omega]; omega
 omega
def upQ (v : Nat) (more : Bool) (S : Nat) : Bool := decide (S / 2 < v % S) || (decide (v % S = S / 2) && (more || decide (v / S % 2 = 1)))
def tmQ (v : Nat) (more : Bool) (S : Nat) : Nat := if upQ v more S then v / S + 1 else v / S
theorem unit_parts {X D S : Nat} : X / (S * D) = X / D / S ∧ X % (S * D) = X / D % S * D + X % D := by
 rw [Nat.mul_comm S D]
 refine ⟨by rw [Nat.div_div_eq_div_mul], ?_⟩
 rw [Nat.mod_mul, Nat.mul_comm D, Nat.add_comm]
theorem half_units {h D r x : Nat} (hx : x < D) : (h * D < r * D + x ↔ h < r ∨ (r = h ∧ 0 < x)) ∧ (h * D = r * D + x ↔ r = h ∧ x = 0) := by
 rcases Nat.lt_trichotomy r h with q | q | q
 · have a : r * D + D ≤ h * D := by rw [← Nat.succ_mul]; exact Nat.mul_le_mul_right D q
   constructor <;> constructor <;> omega
 · subst q
   constructor <;> constructor <;> omega
 · have a : h * D + D ≤ r * D := by rw [← Nat.succ_mul]; exact Nat.mul_le_mul_right D q
   constructor <;> constructor <;> omega
theorem rn_units {X D S : Nat} (D0 : 0 < D) (ev : S % 2 = 0) : rnB X (S * D) = upQ (X / D) (decide (X % D ≠ 0)) S := by
 obtain ⟨k, rfl⟩ : ∃ k, S = 2 * k := ⟨S / 2, by omega⟩
 obtain ⟨e1, e2⟩ := @unit_parts X D (2 * k)
 have hx := Nat.mod_lt X D0
 unfold rnB upQ
 rw [e1, e2, Nat.mul_div_cancel_left k (by decide)]
 obtain ⟨a, b⟩ := half_units (h := k) (r := X / D % (2 * k)) hx
 generalize X / D % (2 * k) = r at *
 generalize X % D = x at *
 generalize X / D / (2 * k) % 2 = y at *
 have e3 : 2 * k * D = 2 * (k * D) := Nat.mul_assoc _ _ _
 rw [Bool.eq_iff_iff]
 simp only [Bool.or_eq_true, Bool.and_eq_true, decide_eq_true_eq, e3]
 have a' : 2 * (k * D) < 2 * (r * D + x) ↔ k < r ∨ (r = k ∧ 0 < x) := by rw [← a]; omega
 have b' : 2 * (r * D + x) = 2 * (k * D) ↔ r = k ∧ x = 0 := by rw [← b]; omega
 rw [a', b']
 omega
theorem cnt_gap {g D M T F K : Nat} (h1 : M * D < g * T) (h2 : g * T < (M + 1) * D) (F0 : 0 < F) (FT : F ≤ T) (ne : (F * M + F) / T ≠ F * M / T) (K0 : 0 < K) (kg : F * g % K = 0) (kd : D % K = 0) (hk : F * D ≤ K * T) : F * g % D = 0 := by
 obtain ⟨a, b⟩ := cnt_ends h1 h2 F0
 have T0 : 0 < T := by omega
 have D0 : 0 < D := by
  rcases Nat.eq_zero_or_pos D with z | z
  · rw [z, Nat.mul_zero] at h2; omega
  · exact z
 have dm := Nat.div_add_mod (F * M) T
 have ml1 := Nat.mod_lt (F * M) T0
 have n1 : (F * M + F) / T = F * M / T + 1 := by
  have up : (F * M + F) / T < F * M / T + 2 := by
   rw [Nat.div_lt_iff_lt_mul T0, Nat.add_mul, Nat.mul_comm (F * M / T) T]
   omega
  have dn : F * M / T ≤ (F * M + F) / T := Nat.div_le_div_right (by omega)
  omega
 have dn := Nat.div_add_mod (F * M + F) T
 rw [n1] at dn
 clear ne n1
 generalize F * M / T = w at *
 have c1 : F * M < T * (w + 1) := by rw [Nat.mul_add, Nat.mul_one]; omega
 have c2 : T * (w + 1) ≤ F * M + F := by omega
 obtain ⟨x, hx⟩ : ∃ x, F * g = K * x := ⟨F * g / K, by have := Nat.div_add_mod (F * g) K; omega⟩
 obtain ⟨y, hy⟩ : ∃ y, D = K * y := ⟨D / K, by have := Nat.div_add_mod D K; omega⟩
 have d1 : F * M * D < T * (w + 1) * D := Nat.mul_lt_mul_of_pos_right c1 D0
 have d2 : T * (w + 1) * D ≤ (F * M + F) * D := Nat.mul_le_mul_right D c2
 have e2 : (F * M + F) * D = F * M * D + F * D := Nat.add_mul _ _ _
 rw [e2] at b d2
 have P : F * g * T = K * T * x := by rw [hx]; ac_rfl
 have Q : T * (w + 1) * D = K * T * ((w + 1) * y) := by rw [hy]; ac_rfl
 have KT : 0 < K * T := Nat.mul_pos K0 T0
 have lt1 : x < (w + 1) * y + 1 := by
  refine Nat.lt_of_mul_lt_mul_left (a := K * T) ?_
  rw [Nat.mul_add, Nat.mul_one, ← P, ← Q]
  omega
 have lt2 : (w + 1) * y < x + 1 := by
  refine Nat.lt_of_mul_lt_mul_left (a := K * T) ?_
  rw [Nat.mul_add, Nat.mul_one, ← P, ← Q]
  omega
 have e : x = (w + 1) * y := by omega
 rw [hx, e, hy, show K * ((w + 1) * y) = (w + 1) * (K * y) by ac_rfl]
 exact Nat.mul_mod_left _ _
structure Sh (e p : Int) (n M : Nat) (X : Int) (g D d : Nat) : Prop where
 dr : (d : Int) = -1 - e - X
 d1 : 130 ≤ d
 d2 : d ≤ 189
 lo : M * D ≤ g * 2 ^ d
 hi : g * 2 ^ d < (M + 1) * D
 ex : g * 2 ^ d = M * D ↔ (0 ≤ -p ∧ -p ≤ 55)
 w1 : 10 ^ (n - 1) * D ≤ 2 ^ 62 * g
 w2 : 2 ^ 62 * g < 10 ^ n * D
 nx : 0 ≤ p → 127 + p ≤ -X
 D0 : 0 < D
theorem sh_of {r n : Nat} {e p : Int} {M : Nat} {X : Int} (h : Pw (-p) M X) (t : Td (e + 63) (p + (n : Int))) (n1 : 1 ≤ n) (n2 : n ≤ 18) (e1 : -(r : Int) ≤ e + 1) (p1 : -(r : Int) ≤ p) :
 ∃ d, Sh e p n M X (2 ^ (e + 1 + (r : Int)).toNat * 5 ^ r) (10 ^ (p + (r : Int)).toNat) d := by
 obtain ⟨t1, t2⟩ := t
 rw [td_scale (r := r) (by omega) (by omega)] at t1 t2
 have q2 : 10 ^ (p + (n : Int) - 1 + (r : Int)).toNat = 10 ^ (n - 1) * 10 ^ (p + (r : Int)).toNat := by
  rw [show (p + (n : Int) - 1 + (r : Int)).toNat = (n - 1) + (p + (r : Int)).toNat by omega, Nat.pow_add]
 have q3 : 10 ^ (p + (n : Int) + (r : Int)).toNat = 10 ^ n * 10 ^ (p + (r : Int)).toNat := by
  rw [show (p + (n : Int) + (r : Int)).toNat = n + (p + (r : Int)).toNat by omega, Nat.pow_add]
 have qe : 2 ^ (e + 63 + (r : Int)).toNat = 2 ^ 62 * 2 ^ (e + 1 + (r : Int)).toNat := by
  rw [show (e + 63 + (r : Int)).toNat = 62 + (e + 1 + (r : Int)).toNat by omega, Nat.pow_add]
 rw [q2, qe] at t1
 rw [q3, qe] at t2
 have D0 : 0 < 10 ^ (p + (r : Int)).toNat := Nat.pow_pos (by decide)
 have hD : 0 ≤ p → 10 ^ (p + (r : Int)).toNat = 10 ^ p.toNat * 10 ^ r := fun h0 => by rw [show (p + (r : Int)).toNat = p.toNat + r by omega, Nat.pow_add]
 have A0 : 0 < 10 ^ (n - 1) := Nat.pow_pos (by decide)
 have A60 : 10 ^ n ≤ 2 ^ 60 := Nat.le_trans (Nat.pow_le_pow_right (by decide) n2) (by decide)
 obtain ⟨k, hk⟩ : ∃ k : Nat, k = r + X.natAbs := ⟨_, rfl⟩
 obtain ⟨b, hb⟩ : ∃ b : Nat, (b : Int) = X + (k : Int) := ⟨(X + (k : Int)).toNat, by omega⟩
 have V := fun A => vl_scale (A := A) (p := p) p1 hb
 have hx := pw_exact h
 obtain ⟨m1, m2, v1, v2⟩ := h
 rw [(V M).1] at v1
 rw [(V (M + 1)).1] at v2
 rw [(V M).2] at hx
 obtain ⟨E, hE⟩ : ∃ E, (e + 1 + (r : Int)).toNat = E := ⟨_, rfl⟩
 rw [hE] at t1 t2 ⊢
 clear q2 q3 qe V
 generalize 10 ^ (p + (r : Int)).toNat = D at *
 obtain ⟨A, hA⟩ : ∃ A, 10 ^ (n - 1) = A := ⟨_, rfl⟩
 obtain ⟨B, hB⟩ : ∃ B, 10 ^ n = B := ⟨_, rfl⟩
 rw [hA] at t1 A0
 rw [hB] at t2 A60
 have f0 : 0 < 5 ^ r := Nat.pow_pos (by decide)
 have R1 := ten_five r
 have R0 : 0 < 10 ^ r := Nat.pow_pos (by decide)
 generalize 10 ^ r = R at *
 have pb := Nat.two_pow_pos b
 have bk : 0 < 2 ^ k := Nat.two_pow_pos k
 have lo1 : 2 ^ 127 * 2 ^ b * D ≤ R * 2 ^ k := by
  refine Nat.le_trans ?_ (Nat.le_of_not_lt v1)
  rw [Nat.mul_comm D]
  exact Nat.mul_le_mul_right D (Nat.mul_le_mul_right _ m1)
 have hi1 : R * 2 ^ k < 2 ^ 128 * 2 ^ b * D := by
  refine Nat.lt_of_lt_of_le v2 ?_
  rw [Nat.mul_comm D]
  exact Nat.mul_le_mul_right D (Nat.mul_le_mul_right _ m2)
 have a1 : E + 62 + 127 + b < 60 + r + k := by
  refine (Nat.pow_lt_pow_iff_right (a := 2) (by decide)).1 ?_
  refine Nat.lt_of_mul_lt_mul_right (a := 5 ^ r) ?_
  have s1 : 2 ^ (E + 62 + 127 + b) * 5 ^ r = 2 ^ 127 * 2 ^ b * (2 ^ 62 * 2 ^ E * 5 ^ r) := by
   rw [Nat.pow_add, Nat.pow_add, Nat.pow_add]
   generalize 2 ^ E = x
   generalize 2 ^ b = y
   generalize 2 ^ 127 = z
   generalize 2 ^ 62 = z2
   generalize 5 ^ r = v
   ac_rfl
  have s2 : 2 ^ (60 + r + k) * 5 ^ r = 2 ^ 60 * (R * 2 ^ k) := by
   rw [R1, Nat.pow_add, Nat.pow_add]
   generalize 2 ^ k = y
   generalize 2 ^ r = z
   generalize 2 ^ 60 = z2
   generalize 5 ^ r = v
   ac_rfl
  rw [s1, s2]
  refine Nat.lt_of_lt_of_le (Nat.mul_lt_mul_of_pos_left t2 (Nat.mul_pos (Nat.two_pow_pos _) pb)) ?_
  have u2 : 2 ^ 127 * 2 ^ b * (B * D) = B * (2 ^ 127 * 2 ^ b * D) := by
   generalize 2 ^ 127 * 2 ^ b = z
   ac_rfl
  rw [u2]
  exact Nat.mul_le_mul A60 lo1
 have a2 : r + k < E + 62 + 128 + b := by
  refine (Nat.pow_lt_pow_iff_right (a := 2) (by decide)).1 ?_
  refine Nat.lt_of_mul_lt_mul_right (a := 5 ^ r) ?_
  have s1 : 2 ^ (E + 62 + 128 + b) * 5 ^ r = 2 ^ 128 * 2 ^ b * (2 ^ 62 * 2 ^ E * 5 ^ r) := by
   rw [Nat.pow_add, Nat.pow_add, Nat.pow_add]
   generalize 2 ^ E = x
   generalize 2 ^ b = y
   generalize 2 ^ 128 = z
   generalize 2 ^ 62 = z2
   generalize 5 ^ r = v
   ac_rfl
  have s2 : 2 ^ (r + k) * 5 ^ r = R * 2 ^ k := by
   rw [R1, Nat.pow_add]
   ac_rfl
  rw [s1, s2]
  refine Nat.lt_of_lt_of_le hi1 (Nat.mul_le_mul_left _ (Nat.le_trans ?_ (Nat.le_of_not_lt t1)))
  exact Nat.le_mul_of_pos_left D A0
 have a3 : 0 ≤ p → 127 + b + p.toNat ≤ k := fun h0 => by
  refine (Nat.pow_le_pow_iff_right (a := 2) (by decide)).1 ?_
  refine Nat.le_of_mul_le_mul_right ?_ R0
  have c : 2 ^ p.toNat ≤ 10 ^ p.toNat := Nat.pow_le_pow_left (by decide) _
  rw [hD h0] at lo1
  rw [Nat.pow_add, Nat.pow_add, Nat.mul_comm (2 ^ k) R]
  refine Nat.le_trans ?_ lo1
  rw [← Nat.mul_assoc]
  exact Nat.mul_le_mul_right R (Nat.mul_le_mul_left _ c)
 obtain ⟨d, hd⟩ : ∃ d : Nat, (d : Int) = -1 - e - X := ⟨(-1 - e - X).toNat, by omega⟩
 have key : 2 ^ E * 5 ^ r * 2 ^ d * 2 ^ b = R * 2 ^ k := by
  rw [R1, show 2 ^ E * 5 ^ r * 2 ^ d * 2 ^ b = 2 ^ (E + d + b) * 5 ^ r by rw [Nat.pow_add, Nat.pow_add]; ac_rfl, show 2 ^ r * 5 ^ r * 2 ^ k = 2 ^ (r + k) * 5 ^ r by rw [Nat.pow_add]; ac_rfl]
  congr 2
  omega
 rw [← key] at v1 v2 hx
 have L : ∀ A, D * (A * 2 ^ b) = A * D * 2 ^ b := fun A => by ac_rfl
 rw [L] at v1 v2 hx
 refine ⟨d, hd, by omega, by omega, ?_, ?_, ?_, ?_, ?_, ?_, D0⟩
 · exact Nat.le_of_mul_le_mul_right (Nat.le_of_not_lt v1) pb
 · exact Nat.lt_of_mul_lt_mul_right v2
 · rw [← hx]
   exact ⟨fun q => by rw [q], fun q => Nat.eq_of_mul_eq_mul_right pb q⟩
 · rw [hA, ← Nat.mul_assoc]; exact Nat.le_of_not_lt t1
 · rw [hB, ← Nat.mul_assoc]; exact t2
 · intro h0
   have := a3 h0
   omega
theorem five_gap {r F d : Nat} {e p X : Int} (dr : (d : Int) = -1 - e - X) (d1 : 130 ≤ d) (nx : 127 + p ≤ -X) (h0 : 0 ≤ p) (er : -(r : Int) ≤ e + 1) (hF : F % 5 ^ p.toNat = 0) (F64 : F < 2 ^ 64) :
 ∃ K, 0 < K ∧ F * (2 ^ (e + 1 + (r : Int)).toNat * 5 ^ r) % K = 0 ∧ 10 ^ (p + (r : Int)).toNat % K = 0 ∧ F * 10 ^ (p + (r : Int)).toNat ≤ K * 2 ^ d := by
 obtain ⟨q, hq⟩ : ∃ q, F = 5 ^ p.toNat * q := ⟨F / 5 ^ p.toNat, by have := Nat.div_add_mod F (5 ^ p.toNat); omega⟩
 obtain ⟨E, hE⟩ : ∃ E, (e + 1 + (r : Int)).toNat = E := ⟨_, rfl⟩
 rw [hE, show (p + (r : Int)).toNat = p.toNat + r by omega]
 obtain ⟨P, hP⟩ : ∃ P, p.toNat = P := ⟨_, rfl⟩
 rw [hP] at hq hF ⊢
 obtain ⟨k, k1, k2, k3⟩ : ∃ k, k ≤ E ∧ k ≤ P + r ∧ 64 + (P + r) ≤ k + d := by
  by_cases c : E ≤ P + r
  · exact ⟨E, Nat.le_refl _, c, by omega⟩
  · exact ⟨P + r, by omega, Nat.le_refl _, by omega⟩
 have e5 : 5 ^ (P + r) = 5 ^ P * 5 ^ r := Nat.pow_add _ _ _
 refine ⟨2 ^ k * 5 ^ (P + r), Nat.mul_pos (Nat.two_pow_pos _) (Nat.pow_pos (by decide)), ?_, ?_, ?_⟩
 · have eE : 2 ^ E = 2 ^ (E - k) * 2 ^ k := by rw [← Nat.pow_add]; congr 1; omega
   rw [hq, eE, e5, show 5 ^ P * q * (2 ^ (E - k) * 2 ^ k * 5 ^ r) = q * 2 ^ (E - k) * (2 ^ k * (5 ^ P * 5 ^ r)) by ac_rfl]
   exact Nat.mul_mod_left _ _
 · have eQ : 2 ^ (P + r) = 2 ^ (P + r - k) * 2 ^ k := by rw [← Nat.pow_add]; congr 1; omega
   rw [ten_five, eQ, Nat.mul_assoc]
   exact Nat.mul_mod_left _ _
 · rw [ten_five, show F * (2 ^ (P + r) * 5 ^ (P + r)) = F * 2 ^ (P + r) * 5 ^ (P + r) by ac_rfl, show 2 ^ k * 5 ^ (P + r) * 2 ^ d = 2 ^ k * 2 ^ d * 5 ^ (P + r) by ac_rfl]
   refine Nat.mul_le_mul_right _ ?_
   rw [← Nat.pow_add]
   refine Nat.le_trans (Nat.mul_le_mul_right _ (Nat.le_of_lt F64)) ?_
   rw [← Nat.pow_add]
   exact Nat.pow_le_pow_right (by decide) k3
theorem rnB_two {X S : Nat} : rnB (2 * X) (2 * S) = rnB X S := by
 unfold rnB
 rw [Nat.mul_mod_mul_left, Nat.mul_div_mul_left _ _ (by decide)]
 exact decide_eq_decide.2 (by omega)
theorem tm_rn {X D k : Nat} (D0 : 0 < D) (k0 : 0 < k) : tmQ (2 * X / D) (decide (2 * X % D ≠ 0)) (2 * k) * (k * D) = rnU X (k * D) := by
  have S0 : 0 < k * D := Nat.mul_pos k0 D0
  have e1 := @rn_units (2 * X) D (2 * k) D0 (by omega)
  rw [Nat.mul_assoc, rnB_two] at e1
  have e2 : 2 * X / D / (2 * k) = X / (k * D) := by
    rw [Nat.div_div_eq_div_mul, Nat.mul_comm D, Nat.mul_assoc, Nat.mul_div_mul_left _ _ (by decide)]
  unfold tmQ rnU
  rw [← e1, e2]
  cases r : rnB X (k * D) with
  | true =>
    have z : 0 < X % (k * D) := by
      unfold rnB at r
      rw [decide_eq_true_eq] at r
      omega
    rw [if_pos rfl, if_pos rfl, up_is S0 z, Nat.add_mul, Nat.one_mul]
    rfl
  | false =>
    rw [if_neg (by decide), if_neg (by decide)]
    rfl
theorem ten_noughts {t : Nat} (t0 : 0 < t) : ∃ m j, t = m * 10 ^ j ∧ m % 10 ≠ 0 ∧ Lib.nDigits t = Lib.nDigits m + j := by
  induction t using Nat.strongRecOn with
  | _ t ih =>
    by_cases c : t % 10 = 0
    · obtain ⟨m, j, e1, e2, e3⟩ := ih (t / 10) (by omega) (by omega)
      refine ⟨m, j + 1, ?_, e2, ?_⟩
      · rw [Nat.pow_succ, ← Nat.mul_assoc, ← e1]; omega
      · rw [Lib.nDigits_big (show ¬ t < 10 by omega), e3]; omega
    · exact ⟨t, 0, by rw [Nat.pow_zero, Nat.mul_one], c, rfl⟩
theorem ten_trim {t m j : Nat} (h : t = m * 10 ^ j) (hm : m % 10 ≠ 0) (hn : Lib.nDigits t = Lib.nDigits m + j) :
 (tenT t).extract 0 (Lib.nDigits m) = tenT m ∧ (∀ i, Lib.nDigits m ≤ i → (hi : i < (tenT t).size) → ((tenT t)[i]'hi).toNat = 48) ∧ ((h0 : Lib.nDigits m - 1 < (tenT t).size) → ((tenT t)[Lib.nDigits m - 1]'h0).toNat ≠ 48) := by
 have s := ten_size t
 have sm := ten_size m
 have p := Lib.nDigits_pos m
 have D : ∀ i, i < Lib.nDigits m → t / 10 ^ (Lib.nDigits t - 1 - i) = m / 10 ^ (Lib.nDigits m - 1 - i) := fun i hi => by
  rw [show Lib.nDigits t - 1 - i = (Lib.nDigits m - 1 - i) + j by omega, h, Nat.pow_add, Nat.mul_div_mul_right _ _ (Nat.pow_pos (by decide))]
 refine ⟨?_, fun i h1 h2 => ?_, fun h0 => ?_⟩
 · have es : ((tenT t).extract 0 (Lib.nDigits m)).size = (tenT m).size := by rw [pre_size (by omega), sm]
   refine ba_ext es fun i hi => ?_
   rw [es, sm] at hi
   rw [pre_dgt (by omega) hi, ten_dgt (by omega), ten_dgt hi, D i hi]
 · rw [← dgt_lt h2, ten_dgt (by omega)]
   obtain ⟨y, hy, yj⟩ : ∃ y, Lib.nDigits t - 1 - i = y ∧ y < j := ⟨_, rfl, by omega⟩
   rw [hy]
   have e : t / 10 ^ y = m * 10 ^ (j - y) := by
    have : 10 ^ j = 10 ^ (j - y) * 10 ^ y := by rw [← Nat.pow_add]; congr 1; omega
    rw [h, this, ← Nat.mul_assoc, Nat.mul_div_cancel _ (Nat.pow_pos (by decide))]
   obtain ⟨q, hq⟩ : ∃ q, j - y = q + 1 := ⟨j - y - 1, by omega⟩
   rw [e, hq, Nat.pow_succ, ← Nat.mul_assoc, Nat.mul_mod_left]
 · rw [← dgt_lt h0, ten_dgt (by omega), D _ (by omega), Nat.sub_self, Nat.pow_zero, Nat.div_one]
   omega
end Go.Proofs.YtjagnfddmlkalaaGreatDoor
namespace Go.Proofs.YtjagnfddmlkalaaGreatDoor
def x2 (X : Nat) : Int := ((X / 340282366920938463463374607431768211456 : Nat) : Int)
def x1 (X : Nat) : Int := ((X / 18446744073709551616 % 18446744073709551616 : Nat) : Int)
def x0 (X : Nat) : Int := ((X % 18446744073709551616 : Nat) : Int)
theorem x1_word (X : Nat) : Word (x1 X) := by unfold Word x1; omega
theorem x0_word (X : Nat) : Word (x0 X) := by unfold Word x0; omega
theorem mul_words (M b : Nat) : m3Top (hiW M) (loW M) (b : Int) = x2 (M * b) ∧ m3Mid (hiW M) (loW M) (b : Int) = x1 (M * b) ∧ mLo (loW M) (b : Int) = x0 (M * b) := by
 unfold m3Top m3Mid mHi mLo a3C a3Lo hiW loW x2 x1 x0
 have e0 : M * b = M / 18446744073709551616 * b * 18446744073709551616 + M % 18446744073709551616 * b := by
  rw [Nat.mul_right_comm, ← Nat.add_mul, Nat.div_add_mod']
 have e1 : ((M / 18446744073709551616 : Nat) : Int) * (b : Int) = ((M / 18446744073709551616 * b : Nat) : Int) := (Int.natCast_mul _ _).symm
 have e2 : ((M % 18446744073709551616 : Nat) : Int) * (b : Int) = ((M % 18446744073709551616 * b : Nat) : Int) := (Int.natCast_mul _ _).symm
 rw [e1, e2, e0, show (340282366920938463463374607431768211456 : Nat) = 18446744073709551616 * 18446744073709551616 from rfl, ← Nat.div_div_eq_div_mul]
 generalize M / 18446744073709551616 * b = p
 generalize M % 18446744073709551616 * b = q
 refine ⟨?_, ?_, ?_⟩ <;> omega
theorem sum_words {X A : Nat} (hA : A < 2 ^ 128) (h : X + A < 2 ^ 192) : sHi (x1 X) (x0 X) (hiW A) (loW A) = x1 (X + A) ∧ sLo (x0 X) (loW A) = x0 (X + A) ∧
 (sOv (x1 X) (x0 X) (hiW A) (loW A) = false → x2 X = x2 (X + A)) ∧ (sOv (x1 X) (x0 X) (hiW A) (loW A) = true → x2 X + 1 = x2 (X + A) ∧ x2 X + 1 < 18446744073709551616) := by
 rw [show 2 ^ 128 = 340282366920938463463374607431768211456 from rfl] at hA
 rw [show 2 ^ 192 = 6277101735386680763835789423207666416102355444464034512896 from rfl] at h
 unfold sHi sLo sOv a3C a3Lo hiW loW x2 x1 x0
 rw [show (340282366920938463463374607431768211456 : Nat) = 18446744073709551616 * 18446744073709551616 from rfl, ← Nat.div_div_eq_div_mul, ← Nat.div_div_eq_div_mul]
 obtain ⟨c, hc⟩ : ∃ c, c = X % 18446744073709551616 := ⟨_, rfl⟩
 obtain ⟨U, hU⟩ : ∃ U, U = X / 18446744073709551616 := ⟨_, rfl⟩
 obtain ⟨d, hd⟩ : ∃ d, d = A % 18446744073709551616 := ⟨_, rfl⟩
 obtain ⟨D, hD⟩ : ∃ D, D = A / 18446744073709551616 := ⟨_, rfl⟩
 have e1 : (X + A) % 18446744073709551616 = (c + d) % 18446744073709551616 := by omega
 have e2 : (X + A) / 18446744073709551616 = U + D + (c + d) / 18446744073709551616 := by omega
 have e3 : U + D + (c + d) / 18446744073709551616 < 340282366920938463463374607431768211456 := by omega
 have l1 : c < 18446744073709551616 := by omega
 have l2 : d < 18446744073709551616 := by omega
 have l3 : D < 18446744073709551616 := by omega
 rw [e1, e2, ← hc, ← hU, ← hd, ← hD]
 clear e1 e2 hc hU hd hD h hA
 refine ⟨by omega, by omega, ?_, ?_⟩
 · intro z
   rw [bne_eq_false_iff_eq] at z
   omega
 · intro z
   rw [bne_iff_ne] at z
   omega
end Go.Proofs.YtjagnfddmlkalaaGreatDoor
namespace Go.Proofs.YtjagnfddmlkalaaGreatDoor
open Go.RowKit
theorem hso_ok {w : World} {xe rm l n X mh ml k : Int} {m F : Nat} {ex ng : Bool} (hT : Tab w) (l1 : -400 ≤ l) (l2 : l ≤ 400) (e1 : -1100 ≤ xe) (e2 : xe ≤ 1100) (r1 : 0 ≤ rm) (r2 : rm ≤ 63) (n1 : 1 ≤ n) (n2 : n ≤ 18) (x1 : -2000 ≤ X) (x2 : X ≤ 2000) (hF : IntKind.u64.wrap ((m : Int) * 2 ^ rm.toNat) = (F : Int)) (HL : ∀ W, Calls Tryz.prog 31 #[.agg #[.int .u64 (m : Int), .int .u64 0]] W fun e w' => e = .returned (.int .i64 rm) ∧ Below W.heap.size W w') (HD : ∀ W, Calls Tryz.prog 32 #[.int .i64 (xe - rm + 63)] W fun e w' => e = .returned (.tuple #[.int .i64 l, .nilIface]) ∧ Below W.heap.size W w') (HO : ∀ W, Tab W → Calls Tryz.prog 33 #[.int .i64 (-(l - n))] W fun e w' => e = .returned (.tuple #[.agg #[.int .u64 mh, .int .u64 ml, .int .i64 X, .bool ex], .nilIface]) ∧ Below W.heap.size W w') :
 Calls Tryz.prog 15 #[.agg #[.bool ng, .int .i64 k, .int .u64 (m : Int), .int .i64 xe], .int .i64 n] w fun x w' => x = .returned (.tuple #[.agg #[.int .u64 mh, .int .u64 ml, .int .i64 X, .bool ex, .int .i64 (l - n), .int .i64 (-129 - (xe - rm) - X)], .int .u64 (F : Int)]) ∧ Below w.heap.size w w' := by
 have F0 : Hid (Bk ((w.alloc (.cells #[.bool ng, .int .i64 k, .int .u64 (m : Int), .int .i64 xe] 39)).alloc (.cells #[.int .u64 0, .int .u64 0, .int .i64 0, .bool false, .int .i64 0, .int .i64 0] 48)) (w.heap.size) [.bool ng, .int .i64 k, .int .u64 (m : Int), .int .i64 xe] ∧ Bk ((w.alloc (.cells #[.bool ng, .int .i64 k, .int .u64 (m : Int), .int .i64 xe] 39)).alloc (.cells #[.int .u64 0, .int .u64 0, .int .i64 0, .bool false, .int .i64 0, .int .i64 0] 48)) (w.heap.size + 1) [.int .u64 0, .int .u64 0, .int .i64 0, .bool false, .int .i64 0, .int .i64 0] ∧ Below w.heap.size w ((w.alloc (.cells #[.bool ng, .int .i64 k, .int .u64 (m : Int), .int .i64 xe] 39)).alloc (.cells #[.int .u64 0, .int .u64 0, .int .i64 0, .bool false, .int .i64 0, .int .i64 0] 48))) := ⟨(Bk.newL w [.bool ng, .int .i64 k, .int .u64 (m : Int), .int .i64 xe] 39).step ((Below.refl _ _).alloc (Nat.le_refl _) _), ((by have q := Bk.newL (w.alloc (.cells #[.bool ng, .int .i64 k, .int .u64 (m : Int), .int .i64 xe] 39)) [.int .u64 0, .int .u64 0, .int .i64 0, .bool false, .int .i64 0, .int .i64 0] 48; simpa using q) : Bk ((w.alloc (.cells #[.bool ng, .int .i64 k, .int .u64 (m : Int), .int .i64 xe] 39)).alloc (.cells #[.int .u64 0, .int .u64 0, .int .i64 0, .bool false, .int .i64 0, .int .i64 0] 48)) (w.heap.size + 1) [.int .u64 0, .int .u64 0, .int .i64 0, .bool false, .int .i64 0, .int .i64 0]), (((Below.refl w.heap.size w)).alloc (Nat.le_refl _) _).alloc ((((Below.refl w.heap.size w)).alloc (Nat.le_refl _) _).size) _⟩
 go_enter Tryz.func15, Tryz.ntmps15
 go_upto_region 1 with fail
 generalize ((w.alloc (.cells #[.bool ng, .int .i64 k, .int .u64 (m : Int), .int .i64 xe] 39)).alloc (.cells #[.int .u64 0, .int .u64 0, .int .i64 0, .bool false, .int .i64 0, .int .i64 0] 48)) = w1 at *
 have l1_0 := F0.out.1.lt
 have a1_0_0 := F0.out.1.cell 0 _ rfl
 have f1_0_0 := F0.out.1.fz 0
 have a1_0_1 := F0.out.1.cell 1 _ rfl
 have f1_0_1 := F0.out.1.fz 1
 have a1_0_2 := F0.out.1.cell 2 _ rfl
 have f1_0_2 := F0.out.1.fz 2
 have a1_0_3 := F0.out.1.cell 3 _ rfl
 have f1_0_3 := F0.out.1.fz 3
 have l1_1 := F0.out.2.1.lt
 have a1_1_0 := F0.out.2.1.cell 0 _ rfl
 have f1_1_0 := F0.out.2.1.fz 0
 have a1_1_1 := F0.out.2.1.cell 1 _ rfl
 have f1_1_1 := F0.out.2.1.fz 1
 have a1_1_2 := F0.out.2.1.cell 2 _ rfl
 have f1_1_2 := F0.out.2.1.fz 2
 have a1_1_3 := F0.out.2.1.cell 3 _ rfl
 have f1_1_3 := F0.out.2.1.fz 3
 have a1_1_4 := F0.out.2.1.cell 4 _ rfl
 have f1_1_4 := F0.out.2.1.fz 4
 have a1_1_5 := F0.out.2.1.cell 5 _ rfl
 have f1_1_5 := F0.out.2.1.fz 5
 have ne1_0_1 : ¬ w.heap.size = w.heap.size + 1 := by omega
 have ne1_1_0 : ¬ w.heap.size + 1 = w.heap.size := by omega
 go_wp2_with fail
 all_goals first | (exfalso; omega) | skip
 refine (HL _).mono ?_
 rintro o2 w2 ⟨rfl, bb⟩
 have F1 : Hid (Bk w2 (w.heap.size) [.bool ng, .int .i64 k, .int .u64 (m : Int), .int .i64 xe] ∧ Bk w2 (w.heap.size + 1) [.int .u64 0, .int .u64 0, .int .i64 0, .bool false, .int .i64 0, .int .i64 0] ∧ Below w.heap.size w w2) := ⟨(F0.out.1).step bb, (F0.out.2.1).step bb, (F0.out.2.2).trans (bb.mono (F0.out.2.2).size)⟩
 clear F0
 clear bb
 clear l1_0 a1_0_0 f1_0_0 a1_0_1 f1_0_1 a1_0_2 f1_0_2 a1_0_3 f1_0_3 l1_1 a1_1_0 f1_1_0 a1_1_1 f1_1_1 a1_1_2 f1_1_2 a1_1_3 f1_1_3 a1_1_4 f1_1_4 a1_1_5 f1_1_5
 have l2_0 := F1.out.1.lt
 have a2_0_0 := F1.out.1.cell 0 _ rfl
 have f2_0_0 := F1.out.1.fz 0
 have a2_0_1 := F1.out.1.cell 1 _ rfl
 have f2_0_1 := F1.out.1.fz 1
 have a2_0_2 := F1.out.1.cell 2 _ rfl
 have f2_0_2 := F1.out.1.fz 2
 have a2_0_3 := F1.out.1.cell 3 _ rfl
 have f2_0_3 := F1.out.1.fz 3
 have l2_1 := F1.out.2.1.lt
 have a2_1_0 := F1.out.2.1.cell 0 _ rfl
 have f2_1_0 := F1.out.2.1.fz 0
 have a2_1_1 := F1.out.2.1.cell 1 _ rfl
 have f2_1_1 := F1.out.2.1.fz 1
 have a2_1_2 := F1.out.2.1.cell 2 _ rfl
 have f2_1_2 := F1.out.2.1.fz 2
 have a2_1_3 := F1.out.2.1.cell 3 _ rfl
 have f2_1_3 := F1.out.2.1.fz 3
 have a2_1_4 := F1.out.2.1.cell 4 _ rfl
 have f2_1_4 := F1.out.2.1.fz 4
 have a2_1_5 := F1.out.2.1.cell 5 _ rfl
 have f2_1_5 := F1.out.2.1.fz 5
 have ne2_0_1 : ¬ w.heap.size = w.heap.size + 1 := by omega
 have ne2_1_0 : ¬ w.heap.size + 1 = w.heap.size := by omega
 go_wp2_with fail
 all_goals first | (exfalso; omega) | skip
 refine (HD _).mono ?_
 rintro o3 w3 ⟨rfl, bb⟩
 have F2 : Hid (Bk w3 (w.heap.size) [.bool ng, .int .i64 k, .int .u64 (m : Int), .int .i64 xe] ∧ Bk w3 (w.heap.size + 1) [.int .u64 0, .int .u64 0, .int .i64 0, .bool false, .int .i64 0, .int .i64 0] ∧ Below w.heap.size w w3) := ⟨(F1.out.1).step bb, (F1.out.2.1).step bb, (F1.out.2.2).trans (bb.mono (F1.out.2.2).size)⟩
 clear F1
 clear bb
 clear l2_0 a2_0_0 f2_0_0 a2_0_1 f2_0_1 a2_0_2 f2_0_2 a2_0_3 f2_0_3 l2_1 a2_1_0 f2_1_0 a2_1_1 f2_1_1 a2_1_2 f2_1_2 a2_1_3 f2_1_3 a2_1_4 f2_1_4 a2_1_5 f2_1_5
 have l3_0 := F2.out.1.lt
 have a3_0_0 := F2.out.1.cell 0 _ rfl
 have f3_0_0 := F2.out.1.fz 0
 have a3_0_1 := F2.out.1.cell 1 _ rfl
 have f3_0_1 := F2.out.1.fz 1
 have a3_0_2 := F2.out.1.cell 2 _ rfl
 have f3_0_2 := F2.out.1.fz 2
 have a3_0_3 := F2.out.1.cell 3 _ rfl
 have f3_0_3 := F2.out.1.fz 3
 have l3_1 := F2.out.2.1.lt
 have a3_1_0 := F2.out.2.1.cell 0 _ rfl
 have f3_1_0 := F2.out.2.1.fz 0
 have a3_1_1 := F2.out.2.1.cell 1 _ rfl
 have f3_1_1 := F2.out.2.1.fz 1
 have a3_1_2 := F2.out.2.1.cell 2 _ rfl
 have f3_1_2 := F2.out.2.1.fz 2
 have a3_1_3 := F2.out.2.1.cell 3 _ rfl
 have f3_1_3 := F2.out.2.1.fz 3
 have a3_1_4 := F2.out.2.1.cell 4 _ rfl
 have f3_1_4 := F2.out.2.1.fz 4
 have a3_1_5 := F2.out.2.1.cell 5 _ rfl
 have f3_1_5 := F2.out.2.1.fz 5
 have ne3_0_1 : ¬ w.heap.size = w.heap.size + 1 := by omega
 have ne3_1_0 : ¬ w.heap.size + 1 = w.heap.size := by omega
 go_wp2_with fail
 all_goals first | (exfalso; omega) | skip
 refine (HO _ (hT.next F2.out.2.2)).mono ?_
 rintro o4 w4 ⟨rfl, bb⟩
 have F3 : Hid (Bk w4 (w.heap.size) [.bool ng, .int .i64 k, .int .u64 (m : Int), .int .i64 xe] ∧ Bk w4 (w.heap.size + 1) [.int .u64 0, .int .u64 0, .int .i64 0, .bool false, .int .i64 0, .int .i64 0] ∧ Below w.heap.size w w4) := ⟨(F2.out.1).step bb, (F2.out.2.1).step bb, (F2.out.2.2).trans (bb.mono (F2.out.2.2).size)⟩
 clear F2
 clear bb
 clear l3_0 a3_0_0 f3_0_0 a3_0_1 f3_0_1 a3_0_2 f3_0_2 a3_0_3 f3_0_3 l3_1 a3_1_0 f3_1_0 a3_1_1 f3_1_1 a3_1_2 f3_1_2 a3_1_3 f3_1_3 a3_1_4 f3_1_4 a3_1_5 f3_1_5
 have lt0_2 := (F3.out.1).lt
 have lt1_2 := (F3.out.2.1).lt
 have le2 := (F3.out.2.2).size
 have F4 : Hid (Bk (w4.alloc (.cells #[.int .u64 mh, .int .u64 ml, .int .i64 X, .bool ex] 46)) (w.heap.size) [.bool ng, .int .i64 k, .int .u64 (m : Int), .int .i64 xe] ∧ Bk (w4.alloc (.cells #[.int .u64 mh, .int .u64 ml, .int .i64 X, .bool ex] 46)) (w.heap.size + 1) [.int .u64 0, .int .u64 0, .int .i64 0, .bool false, .int .i64 0, .int .i64 0] ∧ Bk (w4.alloc (.cells #[.int .u64 mh, .int .u64 ml, .int .i64 X, .bool ex] 46)) (w4.heap.size) [.int .u64 mh, .int .u64 ml, .int .i64 X, .bool ex] ∧ Below w.heap.size w (w4.alloc (.cells #[.int .u64 mh, .int .u64 ml, .int .i64 X, .bool ex] 46))) := ⟨(F3.out.1).step ((Below.refl _ _).alloc (Nat.le_refl _) _), (F3.out.2.1).step ((Below.refl _ _).alloc (Nat.le_refl _) _), Bk.newL w4 [.int .u64 mh, .int .u64 ml, .int .i64 X, .bool ex] 46, (F3.out.2.2).alloc ((F3.out.2.2).size) _⟩
 clear F3
 go_upto_region 6 with fail
 generalize (w4.alloc (.cells #[.int .u64 mh, .int .u64 ml, .int .i64 X, .bool ex] 46)) = w5 at *
 have l4_0 := F4.out.1.lt
 have a4_0_0 := F4.out.1.cell 0 _ rfl
 have f4_0_0 := F4.out.1.fz 0
 have a4_0_1 := F4.out.1.cell 1 _ rfl
 have f4_0_1 := F4.out.1.fz 1
 have a4_0_2 := F4.out.1.cell 2 _ rfl
 have f4_0_2 := F4.out.1.fz 2
 have a4_0_3 := F4.out.1.cell 3 _ rfl
 have f4_0_3 := F4.out.1.fz 3
 have l4_1 := F4.out.2.1.lt
 have a4_1_0 := F4.out.2.1.cell 0 _ rfl
 have f4_1_0 := F4.out.2.1.fz 0
 have a4_1_1 := F4.out.2.1.cell 1 _ rfl
 have f4_1_1 := F4.out.2.1.fz 1
 have a4_1_2 := F4.out.2.1.cell 2 _ rfl
 have f4_1_2 := F4.out.2.1.fz 2
 have a4_1_3 := F4.out.2.1.cell 3 _ rfl
 have f4_1_3 := F4.out.2.1.fz 3
 have a4_1_4 := F4.out.2.1.cell 4 _ rfl
 have f4_1_4 := F4.out.2.1.fz 4
 have a4_1_5 := F4.out.2.1.cell 5 _ rfl
 have f4_1_5 := F4.out.2.1.fz 5
 have l4_2 := F4.out.2.2.1.lt
 have a4_2_0 := F4.out.2.2.1.cell 0 _ rfl
 have f4_2_0 := F4.out.2.2.1.fz 0
 have a4_2_1 := F4.out.2.2.1.cell 1 _ rfl
 have f4_2_1 := F4.out.2.2.1.fz 1
 have a4_2_2 := F4.out.2.2.1.cell 2 _ rfl
 have f4_2_2 := F4.out.2.2.1.fz 2
 have a4_2_3 := F4.out.2.2.1.cell 3 _ rfl
 have f4_2_3 := F4.out.2.2.1.fz 3
 have ne4_0_1 : ¬ w.heap.size = w.heap.size + 1 := by omega
 have ne4_0_2 : ¬ w.heap.size = w4.heap.size := by omega
 have ne4_1_0 : ¬ w.heap.size + 1 = w.heap.size := by omega
 have ne4_1_2 : ¬ w.heap.size + 1 = w4.heap.size := by omega
 have ne4_2_0 : ¬ w4.heap.size = w.heap.size := by omega
 have ne4_2_1 : ¬ w4.heap.size = w.heap.size + 1 := by omega
 clear HL HD HO hT
 have t3 : IntKind.i64.wrap (-129 - (xe - rm)) = -129 - (xe - rm) := by rw [IntKind.wrap_i64]; omega
 have t4 : IntKind.i64.wrap (-129 - (xe - rm) - X) = -129 - (xe - rm) - X := by rw [IntKind.wrap_i64]; omega
 go_big_region
 all_goals go_wp2
 all_goals (
  refine bodyPost_ret (v := .tuple #[.agg #[.int .u64 mh, .int .u64 ml, .int .i64 X, .bool ex, .int .i64 (l - n), .int .i64 (-129 - (xe - rm) - X)], .int .u64 (F : Int)]) (by simp [results, Tryz.results15, go_sem, World.cell?_setCell_same, World.cell?_setCell_other, *]) rfl ⟨rfl, ?_⟩
  refine Below.drew ?_
  repeat (first | refine Below.setCell ?_ (by first | exact Nat.le_refl _ | (dsimp only; omega)) _ | refine Below.alloc ?_ (by first | exact Nat.le_refl _ | omega | (simp; omega)) _ | refine Below.drew ?_)
  exact F4.out.2.2.2)
theorem hc_ex1 {w : World} {mh ml X p d : Int} {F : Nat} {t h l u1 : Int} (d0 : 0 ≤ d) (d9 : d ≤ 63) (hu1 : t / 2 ^ d.toNat = u1) {s1 : Int} (hs1 : IntKind.u64.wrap (u1 * 2 ^ d.toNat) = s1) (hne : (t != s1) = true) (HM : ∀ W, Calls Tryz.prog 70 #[.agg #[.int .u64 mh, .int .u64 ml], .int .u64 (F : Int)] W fun e w' => e = .returned (.tuple #[.int .u64 t, .agg #[.int .u64 h, .int .u64 l]]) ∧ Below W.heap.size W w')  :
 Calls Tryz.prog 34 #[.agg #[.int .u64 mh, .int .u64 ml, .int .i64 X, .bool true, .int .i64 p, .int .i64 d], .int .u64 (F : Int)] w fun x w' => x = .returned (.tuple #[.agg #[.int .u64 u1, .bool true], .bool true]) ∧ Below w.heap.size w w' := by
 have F0 : Hid (Bk ((w.alloc (.cells #[.int .u64 mh, .int .u64 ml, .int .i64 X, .bool true, .int .i64 p, .int .i64 d] 48)).alloc (.cells #[.int .u64 0, .bool false] 76)) (w.heap.size) [.int .u64 mh, .int .u64 ml, .int .i64 X, .bool true, .int .i64 p, .int .i64 d] ∧ Bk ((w.alloc (.cells #[.int .u64 mh, .int .u64 ml, .int .i64 X, .bool true, .int .i64 p, .int .i64 d] 48)).alloc (.cells #[.int .u64 0, .bool false] 76)) (w.heap.size + 1) [.int .u64 0, .bool false] ∧ Below w.heap.size w ((w.alloc (.cells #[.int .u64 mh, .int .u64 ml, .int .i64 X, .bool true, .int .i64 p, .int .i64 d] 48)).alloc (.cells #[.int .u64 0, .bool false] 76))) := ⟨(Bk.newL w [.int .u64 mh, .int .u64 ml, .int .i64 X, .bool true, .int .i64 p, .int .i64 d] 48).step ((Below.refl _ _).alloc (Nat.le_refl _) _), ((by have q := Bk.newL (w.alloc (.cells #[.int .u64 mh, .int .u64 ml, .int .i64 X, .bool true, .int .i64 p, .int .i64 d] 48)) [.int .u64 0, .bool false] 76; simpa using q) : Bk ((w.alloc (.cells #[.int .u64 mh, .int .u64 ml, .int .i64 X, .bool true, .int .i64 p, .int .i64 d] 48)).alloc (.cells #[.int .u64 0, .bool false] 76)) (w.heap.size + 1) [.int .u64 0, .bool false]), (((Below.refl w.heap.size w)).alloc (Nat.le_refl _) _).alloc ((((Below.refl w.heap.size w)).alloc (Nat.le_refl _) _).size) _⟩
 go_enter Tryz.func34, Tryz.ntmps34
 go_upto_region 1 with fail
 generalize ((w.alloc (.cells #[.int .u64 mh, .int .u64 ml, .int .i64 X, .bool true, .int .i64 p, .int .i64 d] 48)).alloc (.cells #[.int .u64 0, .bool false] 76)) = w1 at *
 have l1_0 := F0.out.1.lt
 have a1_0_0 := F0.out.1.cell 0 _ rfl
 have f1_0_0 := F0.out.1.fz 0
 have a1_0_1 := F0.out.1.cell 1 _ rfl
 have f1_0_1 := F0.out.1.fz 1
 have a1_0_2 := F0.out.1.cell 2 _ rfl
 have f1_0_2 := F0.out.1.fz 2
 have a1_0_3 := F0.out.1.cell 3 _ rfl
 have f1_0_3 := F0.out.1.fz 3
 have a1_0_4 := F0.out.1.cell 4 _ rfl
 have f1_0_4 := F0.out.1.fz 4
 have a1_0_5 := F0.out.1.cell 5 _ rfl
 have f1_0_5 := F0.out.1.fz 5
 have l1_1 := F0.out.2.1.lt
 have a1_1_0 := F0.out.2.1.cell 0 _ rfl
 have f1_1_0 := F0.out.2.1.fz 0
 have a1_1_1 := F0.out.2.1.cell 1 _ rfl
 have f1_1_1 := F0.out.2.1.fz 1
 have ne1_0_1 : ¬ w.heap.size = w.heap.size + 1 := by omega
 have ne1_1_0 : ¬ w.heap.size + 1 = w.heap.size := by omega
 go_wp2_with fail
 all_goals first | (exfalso; omega) | skip
 refine (HM _).mono ?_
 rintro o2 w2 ⟨rfl, bb⟩
 have F1 : Hid (Bk w2 (w.heap.size) [.int .u64 mh, .int .u64 ml, .int .i64 X, .bool true, .int .i64 p, .int .i64 d] ∧ Bk w2 (w.heap.size + 1) [.int .u64 0, .bool false] ∧ Below w.heap.size w w2) := ⟨(F0.out.1).step bb, (F0.out.2.1).step bb, (F0.out.2.2).trans (bb.mono (F0.out.2.2).size)⟩
 clear F0
 clear bb
 clear l1_0 a1_0_0 f1_0_0 a1_0_1 f1_0_1 a1_0_2 f1_0_2 a1_0_3 f1_0_3 a1_0_4 f1_0_4 a1_0_5 f1_0_5 l1_1 a1_1_0 f1_1_0 a1_1_1 f1_1_1
 have lt0_2 := (F1.out.1).lt
 have lt1_2 := (F1.out.2.1).lt
 have le2 := (F1.out.2.2).size
 have F2 : Hid (Bk (w2.alloc (.cells #[.int .u64 h, .int .u64 l] 44)) (w.heap.size) [.int .u64 mh, .int .u64 ml, .int .i64 X, .bool true, .int .i64 p, .int .i64 d] ∧ Bk (w2.alloc (.cells #[.int .u64 h, .int .u64 l] 44)) (w.heap.size + 1) [.int .u64 0, .bool false] ∧ Bk (w2.alloc (.cells #[.int .u64 h, .int .u64 l] 44)) (w2.heap.size) [.int .u64 h, .int .u64 l] ∧ Below w.heap.size w (w2.alloc (.cells #[.int .u64 h, .int .u64 l] 44))) := ⟨(F1.out.1).step ((Below.refl _ _).alloc (Nat.le_refl _) _), (F1.out.2.1).step ((Below.refl _ _).alloc (Nat.le_refl _) _), Bk.newL w2 [.int .u64 h, .int .u64 l] 44, (F1.out.2.2).alloc ((F1.out.2.2).size) _⟩
 clear F1
 go_upto_region 2 with fail
 generalize (w2.alloc (.cells #[.int .u64 h, .int .u64 l] 44)) = w3 at *
 have l2_0 := F2.out.1.lt
 have a2_0_0 := F2.out.1.cell 0 _ rfl
 have f2_0_0 := F2.out.1.fz 0
 have a2_0_1 := F2.out.1.cell 1 _ rfl
 have f2_0_1 := F2.out.1.fz 1
 have a2_0_2 := F2.out.1.cell 2 _ rfl
 have f2_0_2 := F2.out.1.fz 2
 have a2_0_3 := F2.out.1.cell 3 _ rfl
 have f2_0_3 := F2.out.1.fz 3
 have a2_0_4 := F2.out.1.cell 4 _ rfl
 have f2_0_4 := F2.out.1.fz 4
 have a2_0_5 := F2.out.1.cell 5 _ rfl
 have f2_0_5 := F2.out.1.fz 5
 have l2_1 := F2.out.2.1.lt
 have a2_1_0 := F2.out.2.1.cell 0 _ rfl
 have f2_1_0 := F2.out.2.1.fz 0
 have a2_1_1 := F2.out.2.1.cell 1 _ rfl
 have f2_1_1 := F2.out.2.1.fz 1
 have l2_2 := F2.out.2.2.1.lt
 have a2_2_0 := F2.out.2.2.1.cell 0 _ rfl
 have f2_2_0 := F2.out.2.2.1.fz 0
 have a2_2_1 := F2.out.2.2.1.cell 1 _ rfl
 have f2_2_1 := F2.out.2.2.1.fz 1
 have ne2_0_1 : ¬ w.heap.size = w.heap.size + 1 := by omega
 have ne2_0_2 : ¬ w.heap.size = w2.heap.size := by omega
 have ne2_1_0 : ¬ w.heap.size + 1 = w.heap.size := by omega
 have ne2_1_2 : ¬ w.heap.size + 1 = w2.heap.size := by omega
 have ne2_2_0 : ¬ w2.heap.size = w.heap.size := by omega
 have ne2_2_1 : ¬ w2.heap.size = w.heap.size + 1 := by omega
 go_wp2
 all_goals (
  refine bodyPost_ret (v := .tuple #[.agg #[.int .u64 u1, .bool true], .bool true]) (by simp [results, Tryz.results34, go_sem, World.cell?_setCell_same, World.cell?_setCell_other, *]) rfl ⟨rfl, ?_⟩
  repeat (first | refine Below.setCell ?_ (by first | exact Nat.le_refl _ | (dsimp only; omega)) _ | refine Below.alloc ?_ (by first | exact Nat.le_refl _ | omega | (simp; omega)) _ | refine Below.drew ?_)
  exact F2.out.2.2.2)
theorem hc_ex2 {w : World} {mh ml X p d : Int} {F : Nat} {t h l u1 : Int} (d0 : 0 ≤ d) (d9 : d ≤ 63) (hu1 : t / 2 ^ d.toNat = u1) (hs1 : IntKind.u64.wrap (u1 * 2 ^ d.toNat) = t) (hz : h ≠ 0 ∨ l ≠ 0) (HM : ∀ W, Calls Tryz.prog 70 #[.agg #[.int .u64 mh, .int .u64 ml], .int .u64 (F : Int)] W fun e w' => e = .returned (.tuple #[.int .u64 t, .agg #[.int .u64 h, .int .u64 l]]) ∧ Below W.heap.size W w')  :
 Calls Tryz.prog 34 #[.agg #[.int .u64 mh, .int .u64 ml, .int .i64 X, .bool true, .int .i64 p, .int .i64 d], .int .u64 (F : Int)] w fun x w' => x = .returned (.tuple #[.agg #[.int .u64 u1, .bool true], .bool true]) ∧ Below w.heap.size w w' := by
 have F0 : Hid (Bk ((w.alloc (.cells #[.int .u64 mh, .int .u64 ml, .int .i64 X, .bool true, .int .i64 p, .int .i64 d] 48)).alloc (.cells #[.int .u64 0, .bool false] 76)) (w.heap.size) [.int .u64 mh, .int .u64 ml, .int .i64 X, .bool true, .int .i64 p, .int .i64 d] ∧ Bk ((w.alloc (.cells #[.int .u64 mh, .int .u64 ml, .int .i64 X, .bool true, .int .i64 p, .int .i64 d] 48)).alloc (.cells #[.int .u64 0, .bool false] 76)) (w.heap.size + 1) [.int .u64 0, .bool false] ∧ Below w.heap.size w ((w.alloc (.cells #[.int .u64 mh, .int .u64 ml, .int .i64 X, .bool true, .int .i64 p, .int .i64 d] 48)).alloc (.cells #[.int .u64 0, .bool false] 76))) := ⟨(Bk.newL w [.int .u64 mh, .int .u64 ml, .int .i64 X, .bool true, .int .i64 p, .int .i64 d] 48).step ((Below.refl _ _).alloc (Nat.le_refl _) _), ((by have q := Bk.newL (w.alloc (.cells #[.int .u64 mh, .int .u64 ml, .int .i64 X, .bool true, .int .i64 p, .int .i64 d] 48)) [.int .u64 0, .bool false] 76; simpa using q) : Bk ((w.alloc (.cells #[.int .u64 mh, .int .u64 ml, .int .i64 X, .bool true, .int .i64 p, .int .i64 d] 48)).alloc (.cells #[.int .u64 0, .bool false] 76)) (w.heap.size + 1) [.int .u64 0, .bool false]), (((Below.refl w.heap.size w)).alloc (Nat.le_refl _) _).alloc ((((Below.refl w.heap.size w)).alloc (Nat.le_refl _) _).size) _⟩
 go_enter Tryz.func34, Tryz.ntmps34
 go_upto_region 1 with fail
 generalize ((w.alloc (.cells #[.int .u64 mh, .int .u64 ml, .int .i64 X, .bool true, .int .i64 p, .int .i64 d] 48)).alloc (.cells #[.int .u64 0, .bool false] 76)) = w1 at *
 have l1_0 := F0.out.1.lt
 have a1_0_0 := F0.out.1.cell 0 _ rfl
 have f1_0_0 := F0.out.1.fz 0
 have a1_0_1 := F0.out.1.cell 1 _ rfl
 have f1_0_1 := F0.out.1.fz 1
 have a1_0_2 := F0.out.1.cell 2 _ rfl
 have f1_0_2 := F0.out.1.fz 2
 have a1_0_3 := F0.out.1.cell 3 _ rfl
 have f1_0_3 := F0.out.1.fz 3
 have a1_0_4 := F0.out.1.cell 4 _ rfl
 have f1_0_4 := F0.out.1.fz 4
 have a1_0_5 := F0.out.1.cell 5 _ rfl
 have f1_0_5 := F0.out.1.fz 5
 have l1_1 := F0.out.2.1.lt
 have a1_1_0 := F0.out.2.1.cell 0 _ rfl
 have f1_1_0 := F0.out.2.1.fz 0
 have a1_1_1 := F0.out.2.1.cell 1 _ rfl
 have f1_1_1 := F0.out.2.1.fz 1
 have ne1_0_1 : ¬ w.heap.size = w.heap.size + 1 := by omega
 have ne1_1_0 : ¬ w.heap.size + 1 = w.heap.size := by omega
 go_wp2_with fail
 all_goals first | (exfalso; omega) | skip
 refine (HM _).mono ?_
 rintro o2 w2 ⟨rfl, bb⟩
 have F1 : Hid (Bk w2 (w.heap.size) [.int .u64 mh, .int .u64 ml, .int .i64 X, .bool true, .int .i64 p, .int .i64 d] ∧ Bk w2 (w.heap.size + 1) [.int .u64 0, .bool false] ∧ Below w.heap.size w w2) := ⟨(F0.out.1).step bb, (F0.out.2.1).step bb, (F0.out.2.2).trans (bb.mono (F0.out.2.2).size)⟩
 clear F0
 clear bb
 clear l1_0 a1_0_0 f1_0_0 a1_0_1 f1_0_1 a1_0_2 f1_0_2 a1_0_3 f1_0_3 a1_0_4 f1_0_4 a1_0_5 f1_0_5 l1_1 a1_1_0 f1_1_0 a1_1_1 f1_1_1
 have lt0_2 := (F1.out.1).lt
 have lt1_2 := (F1.out.2.1).lt
 have le2 := (F1.out.2.2).size
 have F2 : Hid (Bk (w2.alloc (.cells #[.int .u64 h, .int .u64 l] 44)) (w.heap.size) [.int .u64 mh, .int .u64 ml, .int .i64 X, .bool true, .int .i64 p, .int .i64 d] ∧ Bk (w2.alloc (.cells #[.int .u64 h, .int .u64 l] 44)) (w.heap.size + 1) [.int .u64 0, .bool false] ∧ Bk (w2.alloc (.cells #[.int .u64 h, .int .u64 l] 44)) (w2.heap.size) [.int .u64 h, .int .u64 l] ∧ Below w.heap.size w (w2.alloc (.cells #[.int .u64 h, .int .u64 l] 44))) := ⟨(F1.out.1).step ((Below.refl _ _).alloc (Nat.le_refl _) _), (F1.out.2.1).step ((Below.refl _ _).alloc (Nat.le_refl _) _), Bk.newL w2 [.int .u64 h, .int .u64 l] 44, (F1.out.2.2).alloc ((F1.out.2.2).size) _⟩
 clear F1
 go_upto_region 2 with fail
 generalize (w2.alloc (.cells #[.int .u64 h, .int .u64 l] 44)) = w3 at *
 have l2_0 := F2.out.1.lt
 have a2_0_0 := F2.out.1.cell 0 _ rfl
 have f2_0_0 := F2.out.1.fz 0
 have a2_0_1 := F2.out.1.cell 1 _ rfl
 have f2_0_1 := F2.out.1.fz 1
 have a2_0_2 := F2.out.1.cell 2 _ rfl
 have f2_0_2 := F2.out.1.fz 2
 have a2_0_3 := F2.out.1.cell 3 _ rfl
 have f2_0_3 := F2.out.1.fz 3
 have a2_0_4 := F2.out.1.cell 4 _ rfl
 have f2_0_4 := F2.out.1.fz 4
 have a2_0_5 := F2.out.1.cell 5 _ rfl
 have f2_0_5 := F2.out.1.fz 5
 have l2_1 := F2.out.2.1.lt
 have a2_1_0 := F2.out.2.1.cell 0 _ rfl
 have f2_1_0 := F2.out.2.1.fz 0
 have a2_1_1 := F2.out.2.1.cell 1 _ rfl
 have f2_1_1 := F2.out.2.1.fz 1
 have l2_2 := F2.out.2.2.1.lt
 have a2_2_0 := F2.out.2.2.1.cell 0 _ rfl
 have f2_2_0 := F2.out.2.2.1.fz 0
 have a2_2_1 := F2.out.2.2.1.cell 1 _ rfl
 have f2_2_1 := F2.out.2.2.1.fz 1
 have ne2_0_1 : ¬ w.heap.size = w.heap.size + 1 := by omega
 have ne2_0_2 : ¬ w.heap.size = w2.heap.size := by omega
 have ne2_1_0 : ¬ w.heap.size + 1 = w.heap.size := by omega
 have ne2_1_2 : ¬ w.heap.size + 1 = w2.heap.size := by omega
 have ne2_2_0 : ¬ w2.heap.size = w.heap.size := by omega
 have ne2_2_1 : ¬ w2.heap.size = w.heap.size + 1 := by omega
 go_wp2
 all_goals first | (exfalso; omega) | skip
 all_goals (
  refine bodyPost_ret (v := .tuple #[.agg #[.int .u64 u1, .bool true], .bool true]) (by simp [results, Tryz.results34, go_sem, World.cell?_setCell_same, World.cell?_setCell_other, *]) rfl ⟨rfl, ?_⟩
  repeat (first | refine Below.setCell ?_ (by first | exact Nat.le_refl _ | (dsimp only; omega)) _ | refine Below.alloc ?_ (by first | exact Nat.le_refl _ | omega | (simp; omega)) _ | refine Below.drew ?_)
  exact F2.out.2.2.2)
theorem hc_ex3 {w : World} {mh ml X p d : Int} {F : Nat} {t u1 : Int} (d0 : 0 ≤ d) (d9 : d ≤ 63) (hu1 : t / 2 ^ d.toNat = u1) (hs1 : IntKind.u64.wrap (u1 * 2 ^ d.toNat) = t) (HM : ∀ W, Calls Tryz.prog 70 #[.agg #[.int .u64 mh, .int .u64 ml], .int .u64 (F : Int)] W fun e w' => e = .returned (.tuple #[.int .u64 t, .agg #[.int .u64 0, .int .u64 0]]) ∧ Below W.heap.size W w')  :
 Calls Tryz.prog 34 #[.agg #[.int .u64 mh, .int .u64 ml, .int .i64 X, .bool true, .int .i64 p, .int .i64 d], .int .u64 (F : Int)] w fun x w' => x = .returned (.tuple #[.agg #[.int .u64 u1, .bool false], .bool true]) ∧ Below w.heap.size w w' := by
 have F0 : Hid (Bk ((w.alloc (.cells #[.int .u64 mh, .int .u64 ml, .int .i64 X, .bool true, .int .i64 p, .int .i64 d] 48)).alloc (.cells #[.int .u64 0, .bool false] 76)) (w.heap.size) [.int .u64 mh, .int .u64 ml, .int .i64 X, .bool true, .int .i64 p, .int .i64 d] ∧ Bk ((w.alloc (.cells #[.int .u64 mh, .int .u64 ml, .int .i64 X, .bool true, .int .i64 p, .int .i64 d] 48)).alloc (.cells #[.int .u64 0, .bool false] 76)) (w.heap.size + 1) [.int .u64 0, .bool false] ∧ Below w.heap.size w ((w.alloc (.cells #[.int .u64 mh, .int .u64 ml, .int .i64 X, .bool true, .int .i64 p, .int .i64 d] 48)).alloc (.cells #[.int .u64 0, .bool false] 76))) := ⟨(Bk.newL w [.int .u64 mh, .int .u64 ml, .int .i64 X, .bool true, .int .i64 p, .int .i64 d] 48).step ((Below.refl _ _).alloc (Nat.le_refl _) _), ((by have q := Bk.newL (w.alloc (.cells #[.int .u64 mh, .int .u64 ml, .int .i64 X, .bool true, .int .i64 p, .int .i64 d] 48)) [.int .u64 0, .bool false] 76; simpa using q) : Bk ((w.alloc (.cells #[.int .u64 mh, .int .u64 ml, .int .i64 X, .bool true, .int .i64 p, .int .i64 d] 48)).alloc (.cells #[.int .u64 0, .bool false] 76)) (w.heap.size + 1) [.int .u64 0, .bool false]), (((Below.refl w.heap.size w)).alloc (Nat.le_refl _) _).alloc ((((Below.refl w.heap.size w)).alloc (Nat.le_refl _) _).size) _⟩
 go_enter Tryz.func34, Tryz.ntmps34
 go_upto_region 1 with fail
 generalize ((w.alloc (.cells #[.int .u64 mh, .int .u64 ml, .int .i64 X, .bool true, .int .i64 p, .int .i64 d] 48)).alloc (.cells #[.int .u64 0, .bool false] 76)) = w1 at *
 have l1_0 := F0.out.1.lt
 have a1_0_0 := F0.out.1.cell 0 _ rfl
 have f1_0_0 := F0.out.1.fz 0
 have a1_0_1 := F0.out.1.cell 1 _ rfl
 have f1_0_1 := F0.out.1.fz 1
 have a1_0_2 := F0.out.1.cell 2 _ rfl
 have f1_0_2 := F0.out.1.fz 2
 have a1_0_3 := F0.out.1.cell 3 _ rfl
 have f1_0_3 := F0.out.1.fz 3
 have a1_0_4 := F0.out.1.cell 4 _ rfl
 have f1_0_4 := F0.out.1.fz 4
 have a1_0_5 := F0.out.1.cell 5 _ rfl
 have f1_0_5 := F0.out.1.fz 5
 have l1_1 := F0.out.2.1.lt
 have a1_1_0 := F0.out.2.1.cell 0 _ rfl
 have f1_1_0 := F0.out.2.1.fz 0
 have a1_1_1 := F0.out.2.1.cell 1 _ rfl
 have f1_1_1 := F0.out.2.1.fz 1
 have ne1_0_1 : ¬ w.heap.size = w.heap.size + 1 := by omega
 have ne1_1_0 : ¬ w.heap.size + 1 = w.heap.size := by omega
 go_wp2_with fail
 all_goals first | (exfalso; omega) | skip
 refine (HM _).mono ?_
 rintro o2 w2 ⟨rfl, bb⟩
 have F1 : Hid (Bk w2 (w.heap.size) [.int .u64 mh, .int .u64 ml, .int .i64 X, .bool true, .int .i64 p, .int .i64 d] ∧ Bk w2 (w.heap.size + 1) [.int .u64 0, .bool false] ∧ Below w.heap.size w w2) := ⟨(F0.out.1).step bb, (F0.out.2.1).step bb, (F0.out.2.2).trans (bb.mono (F0.out.2.2).size)⟩
 clear F0
 clear bb
 clear l1_0 a1_0_0 f1_0_0 a1_0_1 f1_0_1 a1_0_2 f1_0_2 a1_0_3 f1_0_3 a1_0_4 f1_0_4 a1_0_5 f1_0_5 l1_1 a1_1_0 f1_1_0 a1_1_1 f1_1_1
 have lt0_2 := (F1.out.1).lt
 have lt1_2 := (F1.out.2.1).lt
 have le2 := (F1.out.2.2).size
 have F2 : Hid (Bk (w2.alloc (.cells #[.int .u64 0, .int .u64 0] 44)) (w.heap.size) [.int .u64 mh, .int .u64 ml, .int .i64 X, .bool true, .int .i64 p, .int .i64 d] ∧ Bk (w2.alloc (.cells #[.int .u64 0, .int .u64 0] 44)) (w.heap.size + 1) [.int .u64 0, .bool false] ∧ Bk (w2.alloc (.cells #[.int .u64 0, .int .u64 0] 44)) (w2.heap.size) [.int .u64 0, .int .u64 0] ∧ Below w.heap.size w (w2.alloc (.cells #[.int .u64 0, .int .u64 0] 44))) := ⟨(F1.out.1).step ((Below.refl _ _).alloc (Nat.le_refl _) _), (F1.out.2.1).step ((Below.refl _ _).alloc (Nat.le_refl _) _), Bk.newL w2 [.int .u64 0, .int .u64 0] 44, (F1.out.2.2).alloc ((F1.out.2.2).size) _⟩
 clear F1
 go_upto_region 2 with fail
 generalize (w2.alloc (.cells #[.int .u64 0, .int .u64 0] 44)) = w3 at *
 have l2_0 := F2.out.1.lt
 have a2_0_0 := F2.out.1.cell 0 _ rfl
 have f2_0_0 := F2.out.1.fz 0
 have a2_0_1 := F2.out.1.cell 1 _ rfl
 have f2_0_1 := F2.out.1.fz 1
 have a2_0_2 := F2.out.1.cell 2 _ rfl
 have f2_0_2 := F2.out.1.fz 2
 have a2_0_3 := F2.out.1.cell 3 _ rfl
 have f2_0_3 := F2.out.1.fz 3
 have a2_0_4 := F2.out.1.cell 4 _ rfl
 have f2_0_4 := F2.out.1.fz 4
 have a2_0_5 := F2.out.1.cell 5 _ rfl
 have f2_0_5 := F2.out.1.fz 5
 have l2_1 := F2.out.2.1.lt
 have a2_1_0 := F2.out.2.1.cell 0 _ rfl
 have f2_1_0 := F2.out.2.1.fz 0
 have a2_1_1 := F2.out.2.1.cell 1 _ rfl
 have f2_1_1 := F2.out.2.1.fz 1
 have l2_2 := F2.out.2.2.1.lt
 have a2_2_0 := F2.out.2.2.1.cell 0 _ rfl
 have f2_2_0 := F2.out.2.2.1.fz 0
 have a2_2_1 := F2.out.2.2.1.cell 1 _ rfl
 have f2_2_1 := F2.out.2.2.1.fz 1
 have ne2_0_1 : ¬ w.heap.size = w.heap.size + 1 := by omega
 have ne2_0_2 : ¬ w.heap.size = w2.heap.size := by omega
 have ne2_1_0 : ¬ w.heap.size + 1 = w.heap.size := by omega
 have ne2_1_2 : ¬ w.heap.size + 1 = w2.heap.size := by omega
 have ne2_2_0 : ¬ w2.heap.size = w.heap.size := by omega
 have ne2_2_1 : ¬ w2.heap.size = w.heap.size + 1 := by omega
 go_wp2
 all_goals (
  refine bodyPost_ret (v := .tuple #[.agg #[.int .u64 u1, .bool false], .bool true]) (by simp [results, Tryz.results34, go_sem, World.cell?_setCell_same, World.cell?_setCell_other, *]) rfl ⟨rfl, ?_⟩
  repeat (first | refine Below.setCell ?_ (by first | exact Nat.le_refl _ | (dsimp only; omega)) _ | refine Below.alloc ?_ (by first | exact Nat.le_refl _ | omega | (simp; omega)) _ | refine Below.drew ?_)
  exact F2.out.2.2.2)
theorem hc_same {w : World} {mh ml X p d : Int} {F : Nat} {t h l u1 : Int} (d0 : 0 ≤ d) (d9 : d ≤ 63) (hu1 : t / 2 ^ d.toNat = u1) {h2 l2 t2 u2 : Int} {cy : Bool} (hu2 : t2 / 2 ^ d.toNat = u2) (e12 : u2 = u1) (HM : ∀ W, Calls Tryz.prog 70 #[.agg #[.int .u64 mh, .int .u64 ml], .int .u64 (F : Int)] W fun e w' => e = .returned (.tuple #[.int .u64 t, .agg #[.int .u64 h, .int .u64 l]]) ∧ Below W.heap.size W w') (HA : ∀ W, Calls Tryz.prog 71 #[.agg #[.int .u64 h, .int .u64 l], .agg #[.int .u64 0, .int .u64 (F : Int)]] W fun e w' => e = .returned (.tuple #[.agg #[.int .u64 h2, .int .u64 l2], .bool cy]) ∧ Below W.heap.size W w') (hcy : Hid ((cy = false ∧ t = t2) ∨ (cy = true ∧ IntKind.u64.wrap (t + 1) = t2))) :
 Calls Tryz.prog 34 #[.agg #[.int .u64 mh, .int .u64 ml, .int .i64 X, .bool false, .int .i64 p, .int .i64 d], .int .u64 (F : Int)] w fun x w' => x = .returned (.tuple #[.agg #[.int .u64 u1, .bool true], .bool true]) ∧ Below w.heap.size w w' := by
 have F0 : Hid (Bk ((w.alloc (.cells #[.int .u64 mh, .int .u64 ml, .int .i64 X, .bool false, .int .i64 p, .int .i64 d] 48)).alloc (.cells #[.int .u64 0, .bool false] 76)) (w.heap.size) [.int .u64 mh, .int .u64 ml, .int .i64 X, .bool false, .int .i64 p, .int .i64 d] ∧ Bk ((w.alloc (.cells #[.int .u64 mh, .int .u64 ml, .int .i64 X, .bool false, .int .i64 p, .int .i64 d] 48)).alloc (.cells #[.int .u64 0, .bool false] 76)) (w.heap.size + 1) [.int .u64 0, .bool false] ∧ Below w.heap.size w ((w.alloc (.cells #[.int .u64 mh, .int .u64 ml, .int .i64 X, .bool false, .int .i64 p, .int .i64 d] 48)).alloc (.cells #[.int .u64 0, .bool false] 76))) := ⟨(Bk.newL w [.int .u64 mh, .int .u64 ml, .int .i64 X, .bool false, .int .i64 p, .int .i64 d] 48).step ((Below.refl _ _).alloc (Nat.le_refl _) _), ((by have q := Bk.newL (w.alloc (.cells #[.int .u64 mh, .int .u64 ml, .int .i64 X, .bool false, .int .i64 p, .int .i64 d] 48)) [.int .u64 0, .bool false] 76; simpa using q) : Bk ((w.alloc (.cells #[.int .u64 mh, .int .u64 ml, .int .i64 X, .bool false, .int .i64 p, .int .i64 d] 48)).alloc (.cells #[.int .u64 0, .bool false] 76)) (w.heap.size + 1) [.int .u64 0, .bool false]), (((Below.refl w.heap.size w)).alloc (Nat.le_refl _) _).alloc ((((Below.refl w.heap.size w)).alloc (Nat.le_refl _) _).size) _⟩
 go_enter Tryz.func34, Tryz.ntmps34
 go_upto_region 1 with fail
 generalize ((w.alloc (.cells #[.int .u64 mh, .int .u64 ml, .int .i64 X, .bool false, .int .i64 p, .int .i64 d] 48)).alloc (.cells #[.int .u64 0, .bool false] 76)) = w1 at *
 have l1_0 := F0.out.1.lt
 have a1_0_0 := F0.out.1.cell 0 _ rfl
 have f1_0_0 := F0.out.1.fz 0
 have a1_0_1 := F0.out.1.cell 1 _ rfl
 have f1_0_1 := F0.out.1.fz 1
 have a1_0_2 := F0.out.1.cell 2 _ rfl
 have f1_0_2 := F0.out.1.fz 2
 have a1_0_3 := F0.out.1.cell 3 _ rfl
 have f1_0_3 := F0.out.1.fz 3
 have a1_0_4 := F0.out.1.cell 4 _ rfl
 have f1_0_4 := F0.out.1.fz 4
 have a1_0_5 := F0.out.1.cell 5 _ rfl
 have f1_0_5 := F0.out.1.fz 5
 have l1_1 := F0.out.2.1.lt
 have a1_1_0 := F0.out.2.1.cell 0 _ rfl
 have f1_1_0 := F0.out.2.1.fz 0
 have a1_1_1 := F0.out.2.1.cell 1 _ rfl
 have f1_1_1 := F0.out.2.1.fz 1
 have ne1_0_1 : ¬ w.heap.size = w.heap.size + 1 := by omega
 have ne1_1_0 : ¬ w.heap.size + 1 = w.heap.size := by omega
 go_wp2_with fail
 all_goals first | (exfalso; omega) | skip
 refine (HM _).mono ?_
 rintro o2 w2 ⟨rfl, bb⟩
 have F1 : Hid (Bk w2 (w.heap.size) [.int .u64 mh, .int .u64 ml, .int .i64 X, .bool false, .int .i64 p, .int .i64 d] ∧ Bk w2 (w.heap.size + 1) [.int .u64 0, .bool false] ∧ Below w.heap.size w w2) := ⟨(F0.out.1).step bb, (F0.out.2.1).step bb, (F0.out.2.2).trans (bb.mono (F0.out.2.2).size)⟩
 clear F0
 clear bb
 clear l1_0 a1_0_0 f1_0_0 a1_0_1 f1_0_1 a1_0_2 f1_0_2 a1_0_3 f1_0_3 a1_0_4 f1_0_4 a1_0_5 f1_0_5 l1_1 a1_1_0 f1_1_0 a1_1_1 f1_1_1
 have lt0_2 := (F1.out.1).lt
 have lt1_2 := (F1.out.2.1).lt
 have le2 := (F1.out.2.2).size
 have F2 : Hid (Bk (w2.alloc (.cells #[.int .u64 h, .int .u64 l] 44)) (w.heap.size) [.int .u64 mh, .int .u64 ml, .int .i64 X, .bool false, .int .i64 p, .int .i64 d] ∧ Bk (w2.alloc (.cells #[.int .u64 h, .int .u64 l] 44)) (w.heap.size + 1) [.int .u64 0, .bool false] ∧ Bk (w2.alloc (.cells #[.int .u64 h, .int .u64 l] 44)) (w2.heap.size) [.int .u64 h, .int .u64 l] ∧ Below w.heap.size w (w2.alloc (.cells #[.int .u64 h, .int .u64 l] 44))) := ⟨(F1.out.1).step ((Below.refl _ _).alloc (Nat.le_refl _) _), (F1.out.2.1).step ((Below.refl _ _).alloc (Nat.le_refl _) _), Bk.newL w2 [.int .u64 h, .int .u64 l] 44, (F1.out.2.2).alloc ((F1.out.2.2).size) _⟩
 clear F1
 go_upto_region 2 with fail
 generalize (w2.alloc (.cells #[.int .u64 h, .int .u64 l] 44)) = w3 at *
 have l2_0 := F2.out.1.lt
 have a2_0_0 := F2.out.1.cell 0 _ rfl
 have f2_0_0 := F2.out.1.fz 0
 have a2_0_1 := F2.out.1.cell 1 _ rfl
 have f2_0_1 := F2.out.1.fz 1
 have a2_0_2 := F2.out.1.cell 2 _ rfl
 have f2_0_2 := F2.out.1.fz 2
 have a2_0_3 := F2.out.1.cell 3 _ rfl
 have f2_0_3 := F2.out.1.fz 3
 have a2_0_4 := F2.out.1.cell 4 _ rfl
 have f2_0_4 := F2.out.1.fz 4
 have a2_0_5 := F2.out.1.cell 5 _ rfl
 have f2_0_5 := F2.out.1.fz 5
 have l2_1 := F2.out.2.1.lt
 have a2_1_0 := F2.out.2.1.cell 0 _ rfl
 have f2_1_0 := F2.out.2.1.fz 0
 have a2_1_1 := F2.out.2.1.cell 1 _ rfl
 have f2_1_1 := F2.out.2.1.fz 1
 have l2_2 := F2.out.2.2.1.lt
 have a2_2_0 := F2.out.2.2.1.cell 0 _ rfl
 have f2_2_0 := F2.out.2.2.1.fz 0
 have a2_2_1 := F2.out.2.2.1.cell 1 _ rfl
 have f2_2_1 := F2.out.2.2.1.fz 1
 have ne2_0_1 : ¬ w.heap.size = w.heap.size + 1 := by omega
 have ne2_0_2 : ¬ w.heap.size = w2.heap.size := by omega
 have ne2_1_0 : ¬ w.heap.size + 1 = w.heap.size := by omega
 have ne2_1_2 : ¬ w.heap.size + 1 = w2.heap.size := by omega
 have ne2_2_0 : ¬ w2.heap.size = w.heap.size := by omega
 have ne2_2_1 : ¬ w2.heap.size = w.heap.size + 1 := by omega
 go_wp2_with fail
 all_goals first | (exfalso; omega) | skip
 refine (HA _).mono ?_
 rintro o4 w4 ⟨rfl, bb⟩
 have F3 : Hid (Bk w4 (w.heap.size) [.int .u64 mh, .int .u64 ml, .int .i64 X, .bool false, .int .i64 p, .int .i64 d] ∧ Bk w4 (w.heap.size + 1) [.int .u64 0, .bool false] ∧ Bk w4 (w2.heap.size) [.int .u64 h, .int .u64 l] ∧ Below w.heap.size w w4) := ⟨(F2.out.1).step bb, (F2.out.2.1).step bb, (F2.out.2.2.1).step bb, (F2.out.2.2.2).trans (bb.mono (F2.out.2.2.2).size)⟩
 clear F2
 clear bb
 clear l2_0 a2_0_0 f2_0_0 a2_0_1 f2_0_1 a2_0_2 f2_0_2 a2_0_3 f2_0_3 a2_0_4 f2_0_4 a2_0_5 f2_0_5 l2_1 a2_1_0 f2_1_0 a2_1_1 f2_1_1 l2_2 a2_2_0 f2_2_0 a2_2_1 f2_2_1
 have lt0_3 := (F3.out.1).lt
 have lt1_3 := (F3.out.2.1).lt
 have lt2_3 := (F3.out.2.2.1).lt
 have le3 := (F3.out.2.2.2).size
 have F4 : Hid (Bk (w4.alloc (.cells #[.int .u64 h2, .int .u64 l2] 44)) (w.heap.size) [.int .u64 mh, .int .u64 ml, .int .i64 X, .bool false, .int .i64 p, .int .i64 d] ∧ Bk (w4.alloc (.cells #[.int .u64 h2, .int .u64 l2] 44)) (w.heap.size + 1) [.int .u64 0, .bool false] ∧ Bk (w4.alloc (.cells #[.int .u64 h2, .int .u64 l2] 44)) (w2.heap.size) [.int .u64 h, .int .u64 l] ∧ Bk (w4.alloc (.cells #[.int .u64 h2, .int .u64 l2] 44)) (w4.heap.size) [.int .u64 h2, .int .u64 l2] ∧ Below w.heap.size w (w4.alloc (.cells #[.int .u64 h2, .int .u64 l2] 44))) := ⟨(F3.out.1).step ((Below.refl _ _).alloc (Nat.le_refl _) _), (F3.out.2.1).step ((Below.refl _ _).alloc (Nat.le_refl _) _), (F3.out.2.2.1).step ((Below.refl _ _).alloc (Nat.le_refl _) _), Bk.newL w4 [.int .u64 h2, .int .u64 l2] 44, (F3.out.2.2.2).alloc ((F3.out.2.2.2).size) _⟩
 clear F3
 go_upto_region 6 with fail
 generalize (w4.alloc (.cells #[.int .u64 h2, .int .u64 l2] 44)) = w5 at *
 have l3_0 := F4.out.1.lt
 have a3_0_0 := F4.out.1.cell 0 _ rfl
 have f3_0_0 := F4.out.1.fz 0
 have a3_0_1 := F4.out.1.cell 1 _ rfl
 have f3_0_1 := F4.out.1.fz 1
 have a3_0_2 := F4.out.1.cell 2 _ rfl
 have f3_0_2 := F4.out.1.fz 2
 have a3_0_3 := F4.out.1.cell 3 _ rfl
 have f3_0_3 := F4.out.1.fz 3
 have a3_0_4 := F4.out.1.cell 4 _ rfl
 have f3_0_4 := F4.out.1.fz 4
 have a3_0_5 := F4.out.1.cell 5 _ rfl
 have f3_0_5 := F4.out.1.fz 5
 have l3_1 := F4.out.2.1.lt
 have a3_1_0 := F4.out.2.1.cell 0 _ rfl
 have f3_1_0 := F4.out.2.1.fz 0
 have a3_1_1 := F4.out.2.1.cell 1 _ rfl
 have f3_1_1 := F4.out.2.1.fz 1
 have l3_2 := F4.out.2.2.1.lt
 have a3_2_0 := F4.out.2.2.1.cell 0 _ rfl
 have f3_2_0 := F4.out.2.2.1.fz 0
 have a3_2_1 := F4.out.2.2.1.cell 1 _ rfl
 have f3_2_1 := F4.out.2.2.1.fz 1
 have l3_3 := F4.out.2.2.2.1.lt
 have a3_3_0 := F4.out.2.2.2.1.cell 0 _ rfl
 have f3_3_0 := F4.out.2.2.2.1.fz 0
 have a3_3_1 := F4.out.2.2.2.1.cell 1 _ rfl
 have f3_3_1 := F4.out.2.2.2.1.fz 1
 have ne3_0_1 : ¬ w.heap.size = w.heap.size + 1 := by omega
 have ne3_0_2 : ¬ w.heap.size = w2.heap.size := by omega
 have ne3_0_3 : ¬ w.heap.size = w4.heap.size := by omega
 have ne3_1_0 : ¬ w.heap.size + 1 = w.heap.size := by omega
 have ne3_1_2 : ¬ w.heap.size + 1 = w2.heap.size := by omega
 have ne3_1_3 : ¬ w.heap.size + 1 = w4.heap.size := by omega
 have ne3_2_0 : ¬ w2.heap.size = w.heap.size := by omega
 have ne3_2_1 : ¬ w2.heap.size = w.heap.size + 1 := by omega
 have ne3_2_3 : ¬ w2.heap.size = w4.heap.size := by omega
 have ne3_3_0 : ¬ w4.heap.size = w.heap.size := by omega
 have ne3_3_1 : ¬ w4.heap.size = w.heap.size + 1 := by omega
 have ne3_3_2 : ¬ w4.heap.size = w2.heap.size := by omega
 rcases hcy.out with ⟨rfl, rfl⟩ | ⟨rfl, ht⟩
 all_goals clear hcy
 all_goals
  have hq : (u2 == u1) = true := beq_iff_eq.mpr e12
  go_wp2
  refine bodyPost_ret (v := .tuple #[.agg #[.int .u64 u1, .bool true], .bool true]) (by simp [results, Tryz.results34, go_sem, World.cell?_setCell_same, World.cell?_setCell_other, *]) rfl ⟨rfl, ?_⟩
  repeat (first | refine Below.setCell ?_ (by first | exact Nat.le_refl _ | (dsimp only; omega)) _ | refine Below.alloc ?_ (by first | exact Nat.le_refl _ | omega | (simp; omega)) _ | refine Below.drew ?_)
  exact F4.out.2.2.2.2
theorem hc_five {w : World} {mh ml X p d : Int} {F : Nat} {t h l u1 : Int} (d0 : 0 ≤ d) (d9 : d ≤ 63) (hu1 : t / 2 ^ d.toNat = u1) {h2 l2 t2 u2 : Int} {cy : Bool} (hu2 : t2 / 2 ^ d.toNat = u2) {f5 : Nat} (f0 : 0 < f5) (e12 : u2 ≠ u1) (hm : (F : Int) % (f5 : Int) = 0) (HM : ∀ W, Calls Tryz.prog 70 #[.agg #[.int .u64 mh, .int .u64 ml], .int .u64 (F : Int)] W fun e w' => e = .returned (.tuple #[.int .u64 t, .agg #[.int .u64 h, .int .u64 l]]) ∧ Below W.heap.size W w') (HA : ∀ W, Calls Tryz.prog 71 #[.agg #[.int .u64 h, .int .u64 l], .agg #[.int .u64 0, .int .u64 (F : Int)]] W fun e w' => e = .returned (.tuple #[.agg #[.int .u64 h2, .int .u64 l2], .bool cy]) ∧ Below W.heap.size W w') (hcy : Hid ((cy = false ∧ t = t2) ∨ (cy = true ∧ IntKind.u64.wrap (t + 1) = t2))) (HF : ∀ W, Calls Tryz.prog 72 #[.int .i64 p] W fun e w' => e = .returned (.tuple #[.int .u64 (f5 : Int), .nilIface]) ∧ Below W.heap.size W w') :
 Calls Tryz.prog 34 #[.agg #[.int .u64 mh, .int .u64 ml, .int .i64 X, .bool false, .int .i64 p, .int .i64 d], .int .u64 (F : Int)] w fun x w' => x = .returned (.tuple #[.agg #[.int .u64 u2, .bool false], .bool true]) ∧ Below w.heap.size w w' := by
 have F0 : Hid (Bk ((w.alloc (.cells #[.int .u64 mh, .int .u64 ml, .int .i64 X, .bool false, .int .i64 p, .int .i64 d] 48)).alloc (.cells #[.int .u64 0, .bool false] 76)) (w.heap.size) [.int .u64 mh, .int .u64 ml, .int .i64 X, .bool false, .int .i64 p, .int .i64 d] ∧ Bk ((w.alloc (.cells #[.int .u64 mh, .int .u64 ml, .int .i64 X, .bool false, .int .i64 p, .int .i64 d] 48)).alloc (.cells #[.int .u64 0, .bool false] 76)) (w.heap.size + 1) [.int .u64 0, .bool false] ∧ Below w.heap.size w ((w.alloc (.cells #[.int .u64 mh, .int .u64 ml, .int .i64 X, .bool false, .int .i64 p, .int .i64 d] 48)).alloc (.cells #[.int .u64 0, .bool false] 76))) := ⟨(Bk.newL w [.int .u64 mh, .int .u64 ml, .int .i64 X, .bool false, .int .i64 p, .int .i64 d] 48).step ((Below.refl _ _).alloc (Nat.le_refl _) _), ((by have q := Bk.newL (w.alloc (.cells #[.int .u64 mh, .int .u64 ml, .int .i64 X, .bool false, .int .i64 p, .int .i64 d] 48)) [.int .u64 0, .bool false] 76; simpa using q) : Bk ((w.alloc (.cells #[.int .u64 mh, .int .u64 ml, .int .i64 X, .bool false, .int .i64 p, .int .i64 d] 48)).alloc (.cells #[.int .u64 0, .bool false] 76)) (w.heap.size + 1) [.int .u64 0, .bool false]), (((Below.refl w.heap.size w)).alloc (Nat.le_refl _) _).alloc ((((Below.refl w.heap.size w)).alloc (Nat.le_refl _) _).size) _⟩
 go_enter Tryz.func34, Tryz.ntmps34
 go_upto_region 1 with fail
 generalize ((w.alloc (.cells #[.int .u64 mh, .int .u64 ml, .int .i64 X, .bool false, .int .i64 p, .int .i64 d] 48)).alloc (.cells #[.int .u64 0, .bool false] 76)) = w1 at *
 have l1_0 := F0.out.1.lt
 have a1_0_0 := F0.out.1.cell 0 _ rfl
 have f1_0_0 := F0.out.1.fz 0
 have a1_0_1 := F0.out.1.cell 1 _ rfl
 have f1_0_1 := F0.out.1.fz 1
 have a1_0_2 := F0.out.1.cell 2 _ rfl
 have f1_0_2 := F0.out.1.fz 2
 have a1_0_3 := F0.out.1.cell 3 _ rfl
 have f1_0_3 := F0.out.1.fz 3
 have a1_0_4 := F0.out.1.cell 4 _ rfl
 have f1_0_4 := F0.out.1.fz 4
 have a1_0_5 := F0.out.1.cell 5 _ rfl
 have f1_0_5 := F0.out.1.fz 5
 have l1_1 := F0.out.2.1.lt
 have a1_1_0 := F0.out.2.1.cell 0 _ rfl
 have f1_1_0 := F0.out.2.1.fz 0
 have a1_1_1 := F0.out.2.1.cell 1 _ rfl
 have f1_1_1 := F0.out.2.1.fz 1
 have ne1_0_1 : ¬ w.heap.size = w.heap.size + 1 := by omega
 have ne1_1_0 : ¬ w.heap.size + 1 = w.heap.size := by omega
 go_wp2_with fail
 all_goals first | (exfalso; omega) | skip
 refine (HM _).mono ?_
 rintro o2 w2 ⟨rfl, bb⟩
 have F1 : Hid (Bk w2 (w.heap.size) [.int .u64 mh, .int .u64 ml, .int .i64 X, .bool false, .int .i64 p, .int .i64 d] ∧ Bk w2 (w.heap.size + 1) [.int .u64 0, .bool false] ∧ Below w.heap.size w w2) := ⟨(F0.out.1).step bb, (F0.out.2.1).step bb, (F0.out.2.2).trans (bb.mono (F0.out.2.2).size)⟩
 clear F0
 clear bb
 clear l1_0 a1_0_0 f1_0_0 a1_0_1 f1_0_1 a1_0_2 f1_0_2 a1_0_3 f1_0_3 a1_0_4 f1_0_4 a1_0_5 f1_0_5 l1_1 a1_1_0 f1_1_0 a1_1_1 f1_1_1
 have lt0_2 := (F1.out.1).lt
 have lt1_2 := (F1.out.2.1).lt
 have le2 := (F1.out.2.2).size
 have F2 : Hid (Bk (w2.alloc (.cells #[.int .u64 h, .int .u64 l] 44)) (w.heap.size) [.int .u64 mh, .int .u64 ml, .int .i64 X, .bool false, .int .i64 p, .int .i64 d] ∧ Bk (w2.alloc (.cells #[.int .u64 h, .int .u64 l] 44)) (w.heap.size + 1) [.int .u64 0, .bool false] ∧ Bk (w2.alloc (.cells #[.int .u64 h, .int .u64 l] 44)) (w2.heap.size) [.int .u64 h, .int .u64 l] ∧ Below w.heap.size w (w2.alloc (.cells #[.int .u64 h, .int .u64 l] 44))) := ⟨(F1.out.1).step ((Below.refl _ _).alloc (Nat.le_refl _) _), (F1.out.2.1).step ((Below.refl _ _).alloc (Nat.le_refl _) _), Bk.newL w2 [.int .u64 h, .int .u64 l] 44, (F1.out.2.2).alloc ((F1.out.2.2).size) _⟩
 clear F1
 go_upto_region 2 with fail
 generalize (w2.alloc (.cells #[.int .u64 h, .int .u64 l] 44)) = w3 at *
 have l2_0 := F2.out.1.lt
 have a2_0_0 := F2.out.1.cell 0 _ rfl
 have f2_0_0 := F2.out.1.fz 0
 have a2_0_1 := F2.out.1.cell 1 _ rfl
 have f2_0_1 := F2.out.1.fz 1
 have a2_0_2 := F2.out.1.cell 2 _ rfl
 have f2_0_2 := F2.out.1.fz 2
 have a2_0_3 := F2.out.1.cell 3 _ rfl
 have f2_0_3 := F2.out.1.fz 3
 have a2_0_4 := F2.out.1.cell 4 _ rfl
 have f2_0_4 := F2.out.1.fz 4
 have a2_0_5 := F2.out.1.cell 5 _ rfl
 have f2_0_5 := F2.out.1.fz 5
 have l2_1 := F2.out.2.1.lt
 have a2_1_0 := F2.out.2.1.cell 0 _ rfl
 have f2_1_0 := F2.out.2.1.fz 0
 have a2_1_1 := F2.out.2.1.cell 1 _ rfl
 have f2_1_1 := F2.out.2.1.fz 1
 have l2_2 := F2.out.2.2.1.lt
 have a2_2_0 := F2.out.2.2.1.cell 0 _ rfl
 have f2_2_0 := F2.out.2.2.1.fz 0
 have a2_2_1 := F2.out.2.2.1.cell 1 _ rfl
 have f2_2_1 := F2.out.2.2.1.fz 1
 have ne2_0_1 : ¬ w.heap.size = w.heap.size + 1 := by omega
 have ne2_0_2 : ¬ w.heap.size = w2.heap.size := by omega
 have ne2_1_0 : ¬ w.heap.size + 1 = w.heap.size := by omega
 have ne2_1_2 : ¬ w.heap.size + 1 = w2.heap.size := by omega
 have ne2_2_0 : ¬ w2.heap.size = w.heap.size := by omega
 have ne2_2_1 : ¬ w2.heap.size = w.heap.size + 1 := by omega
 go_wp2_with fail
 all_goals first | (exfalso; omega) | skip
 refine (HA _).mono ?_
 rintro o4 w4 ⟨rfl, bb⟩
 have F3 : Hid (Bk w4 (w.heap.size) [.int .u64 mh, .int .u64 ml, .int .i64 X, .bool false, .int .i64 p, .int .i64 d] ∧ Bk w4 (w.heap.size + 1) [.int .u64 0, .bool false] ∧ Bk w4 (w2.heap.size) [.int .u64 h, .int .u64 l] ∧ Below w.heap.size w w4) := ⟨(F2.out.1).step bb, (F2.out.2.1).step bb, (F2.out.2.2.1).step bb, (F2.out.2.2.2).trans (bb.mono (F2.out.2.2.2).size)⟩
 clear F2
 clear bb
 clear l2_0 a2_0_0 f2_0_0 a2_0_1 f2_0_1 a2_0_2 f2_0_2 a2_0_3 f2_0_3 a2_0_4 f2_0_4 a2_0_5 f2_0_5 l2_1 a2_1_0 f2_1_0 a2_1_1 f2_1_1 l2_2 a2_2_0 f2_2_0 a2_2_1 f2_2_1
 have lt0_3 := (F3.out.1).lt
 have lt1_3 := (F3.out.2.1).lt
 have lt2_3 := (F3.out.2.2.1).lt
 have le3 := (F3.out.2.2.2).size
 have F4 : Hid (Bk (w4.alloc (.cells #[.int .u64 h2, .int .u64 l2] 44)) (w.heap.size) [.int .u64 mh, .int .u64 ml, .int .i64 X, .bool false, .int .i64 p, .int .i64 d] ∧ Bk (w4.alloc (.cells #[.int .u64 h2, .int .u64 l2] 44)) (w.heap.size + 1) [.int .u64 0, .bool false] ∧ Bk (w4.alloc (.cells #[.int .u64 h2, .int .u64 l2] 44)) (w2.heap.size) [.int .u64 h, .int .u64 l] ∧ Bk (w4.alloc (.cells #[.int .u64 h2, .int .u64 l2] 44)) (w4.heap.size) [.int .u64 h2, .int .u64 l2] ∧ Below w.heap.size w (w4.alloc (.cells #[.int .u64 h2, .int .u64 l2] 44))) := ⟨(F3.out.1).step ((Below.refl _ _).alloc (Nat.le_refl _) _), (F3.out.2.1).step ((Below.refl _ _).alloc (Nat.le_refl _) _), (F3.out.2.2.1).step ((Below.refl _ _).alloc (Nat.le_refl _) _), Bk.newL w4 [.int .u64 h2, .int .u64 l2] 44, (F3.out.2.2.2).alloc ((F3.out.2.2.2).size) _⟩
 clear F3
 go_upto_region 6 with fail
 generalize (w4.alloc (.cells #[.int .u64 h2, .int .u64 l2] 44)) = w5 at *
 have l3_0 := F4.out.1.lt
 have a3_0_0 := F4.out.1.cell 0 _ rfl
 have f3_0_0 := F4.out.1.fz 0
 have a3_0_1 := F4.out.1.cell 1 _ rfl
 have f3_0_1 := F4.out.1.fz 1
 have a3_0_2 := F4.out.1.cell 2 _ rfl
 have f3_0_2 := F4.out.1.fz 2
 have a3_0_3 := F4.out.1.cell 3 _ rfl
 have f3_0_3 := F4.out.1.fz 3
 have a3_0_4 := F4.out.1.cell 4 _ rfl
 have f3_0_4 := F4.out.1.fz 4
 have a3_0_5 := F4.out.1.cell 5 _ rfl
 have f3_0_5 := F4.out.1.fz 5
 have l3_1 := F4.out.2.1.lt
 have a3_1_0 := F4.out.2.1.cell 0 _ rfl
 have f3_1_0 := F4.out.2.1.fz 0
 have a3_1_1 := F4.out.2.1.cell 1 _ rfl
 have f3_1_1 := F4.out.2.1.fz 1
 have l3_2 := F4.out.2.2.1.lt
 have a3_2_0 := F4.out.2.2.1.cell 0 _ rfl
 have f3_2_0 := F4.out.2.2.1.fz 0
 have a3_2_1 := F4.out.2.2.1.cell 1 _ rfl
 have f3_2_1 := F4.out.2.2.1.fz 1
 have l3_3 := F4.out.2.2.2.1.lt
 have a3_3_0 := F4.out.2.2.2.1.cell 0 _ rfl
 have f3_3_0 := F4.out.2.2.2.1.fz 0
 have a3_3_1 := F4.out.2.2.2.1.cell 1 _ rfl
 have f3_3_1 := F4.out.2.2.2.1.fz 1
 have ne3_0_1 : ¬ w.heap.size = w.heap.size + 1 := by omega
 have ne3_0_2 : ¬ w.heap.size = w2.heap.size := by omega
 have ne3_0_3 : ¬ w.heap.size = w4.heap.size := by omega
 have ne3_1_0 : ¬ w.heap.size + 1 = w.heap.size := by omega
 have ne3_1_2 : ¬ w.heap.size + 1 = w2.heap.size := by omega
 have ne3_1_3 : ¬ w.heap.size + 1 = w4.heap.size := by omega
 have ne3_2_0 : ¬ w2.heap.size = w.heap.size := by omega
 have ne3_2_1 : ¬ w2.heap.size = w.heap.size + 1 := by omega
 have ne3_2_3 : ¬ w2.heap.size = w4.heap.size := by omega
 have ne3_3_0 : ¬ w4.heap.size = w.heap.size := by omega
 have ne3_3_1 : ¬ w4.heap.size = w.heap.size + 1 := by omega
 have ne3_3_2 : ¬ w4.heap.size = w2.heap.size := by omega
 rcases hcy.out with ⟨rfl, rfl⟩ | ⟨rfl, ht⟩
 · exact absurd (hu2.symm.trans hu1) e12
 all_goals clear hcy
 all_goals
  have hq : (u2 == u1) = false := beq_eq_false_iff_ne.mpr e12
  clear e12
  go_wp2_with fail
  all_goals first | (exfalso; omega) | skip
  refine (HF _).mono ?_
  rintro o6 w6 ⟨rfl, bb⟩
  have F5 : Hid (Bk w6 (w.heap.size) [.int .u64 mh, .int .u64 ml, .int .i64 X, .bool false, .int .i64 p, .int .i64 d] ∧ Bk w6 (w.heap.size + 1) [.int .u64 0, .bool false] ∧ Bk w6 (w2.heap.size) [.int .u64 h, .int .u64 l] ∧ Bk w6 (w4.heap.size) [.int .u64 h2, .int .u64 l2] ∧ Below w.heap.size w w6) := ⟨(F4.out.1).step bb, (F4.out.2.1).step bb, (F4.out.2.2.1).step bb, (F4.out.2.2.2.1).step bb, (F4.out.2.2.2.2).trans (bb.mono (F4.out.2.2.2.2).size)⟩
  clear F4
  clear bb
  clear l3_0 a3_0_0 f3_0_0 a3_0_1 f3_0_1 a3_0_2 f3_0_2 a3_0_3 f3_0_3 a3_0_4 f3_0_4 a3_0_5 f3_0_5 l3_1 a3_1_0 f3_1_0 a3_1_1 f3_1_1 l3_2 a3_2_0 f3_2_0 a3_2_1 f3_2_1 l3_3 a3_3_0 f3_3_0 a3_3_1 f3_3_1
  have l4_0 := F5.out.1.lt
  have a4_0_0 := F5.out.1.cell 0 _ rfl
  have f4_0_0 := F5.out.1.fz 0
  have a4_0_1 := F5.out.1.cell 1 _ rfl
  have f4_0_1 := F5.out.1.fz 1
  have a4_0_2 := F5.out.1.cell 2 _ rfl
  have f4_0_2 := F5.out.1.fz 2
  have a4_0_3 := F5.out.1.cell 3 _ rfl
  have f4_0_3 := F5.out.1.fz 3
  have a4_0_4 := F5.out.1.cell 4 _ rfl
  have f4_0_4 := F5.out.1.fz 4
  have a4_0_5 := F5.out.1.cell 5 _ rfl
  have f4_0_5 := F5.out.1.fz 5
  have l4_1 := F5.out.2.1.lt
  have a4_1_0 := F5.out.2.1.cell 0 _ rfl
  have f4_1_0 := F5.out.2.1.fz 0
  have a4_1_1 := F5.out.2.1.cell 1 _ rfl
  have f4_1_1 := F5.out.2.1.fz 1
  have l4_2 := F5.out.2.2.1.lt
  have a4_2_0 := F5.out.2.2.1.cell 0 _ rfl
  have f4_2_0 := F5.out.2.2.1.fz 0
  have a4_2_1 := F5.out.2.2.1.cell 1 _ rfl
  have f4_2_1 := F5.out.2.2.1.fz 1
  have l4_3 := F5.out.2.2.2.1.lt
  have a4_3_0 := F5.out.2.2.2.1.cell 0 _ rfl
  have f4_3_0 := F5.out.2.2.2.1.fz 0
  have a4_3_1 := F5.out.2.2.2.1.cell 1 _ rfl
  have f4_3_1 := F5.out.2.2.2.1.fz 1
  have ne4_0_1 : ¬ w.heap.size = w.heap.size + 1 := by omega
  have ne4_0_2 : ¬ w.heap.size = w2.heap.size := by omega
  have ne4_0_3 : ¬ w.heap.size = w4.heap.size := by omega
  have ne4_1_0 : ¬ w.heap.size + 1 = w.heap.size := by omega
  have ne4_1_2 : ¬ w.heap.size + 1 = w2.heap.size := by omega
  have ne4_1_3 : ¬ w.heap.size + 1 = w4.heap.size := by omega
  have ne4_2_0 : ¬ w2.heap.size = w.heap.size := by omega
  have ne4_2_1 : ¬ w2.heap.size = w.heap.size + 1 := by omega
  have ne4_2_3 : ¬ w2.heap.size = w4.heap.size := by omega
  have ne4_3_0 : ¬ w4.heap.size = w.heap.size := by omega
  have ne4_3_1 : ¬ w4.heap.size = w.heap.size + 1 := by omega
  have ne4_3_2 : ¬ w4.heap.size = w2.heap.size := by omega
  go_wp2
  refine bodyPost_ret (v := .tuple #[.agg #[.int .u64 u2, .bool false], .bool true]) (by simp [results, Tryz.results34, go_sem, World.cell?_setCell_same, World.cell?_setCell_other, *]) rfl ⟨rfl, ?_⟩
  repeat (first | refine Below.setCell ?_ (by first | exact Nat.le_refl _ | (dsimp only; omega)) _ | refine Below.alloc ?_ (by first | exact Nat.le_refl _ | omega | (simp; omega)) _ | refine Below.drew ?_)
  exact F5.out.2.2.2.2
theorem hc_no {w : World} {mh ml X p d : Int} {F : Nat} {t h l u1 : Int} (d0 : 0 ≤ d) (d9 : d ≤ 63) (hu1 : t / 2 ^ d.toNat = u1) {h2 l2 t2 u2 : Int} {cy : Bool} (hu2 : t2 / 2 ^ d.toNat = u2) {f5 : Nat} (f0 : 0 < f5) (e12 : u2 ≠ u1) (hm : ((F : Int) % (f5 : Int) == 0) = false) (HM : ∀ W, Calls Tryz.prog 70 #[.agg #[.int .u64 mh, .int .u64 ml], .int .u64 (F : Int)] W fun e w' => e = .returned (.tuple #[.int .u64 t, .agg #[.int .u64 h, .int .u64 l]]) ∧ Below W.heap.size W w') (HA : ∀ W, Calls Tryz.prog 71 #[.agg #[.int .u64 h, .int .u64 l], .agg #[.int .u64 0, .int .u64 (F : Int)]] W fun e w' => e = .returned (.tuple #[.agg #[.int .u64 h2, .int .u64 l2], .bool cy]) ∧ Below W.heap.size W w') (hcy : Hid ((cy = false ∧ t = t2) ∨ (cy = true ∧ IntKind.u64.wrap (t + 1) = t2))) (HF : ∀ W, Calls Tryz.prog 72 #[.int .i64 p] W fun e w' => e = .returned (.tuple #[.int .u64 (f5 : Int), .nilIface]) ∧ Below W.heap.size W w') :
 Calls Tryz.prog 34 #[.agg #[.int .u64 mh, .int .u64 ml, .int .i64 X, .bool false, .int .i64 p, .int .i64 d], .int .u64 (F : Int)] w fun x w' => x = .returned (.tuple #[.agg #[.int .u64 0, .bool false], .bool false]) ∧ Below w.heap.size w w' := by
 have F0 : Hid (Bk ((w.alloc (.cells #[.int .u64 mh, .int .u64 ml, .int .i64 X, .bool false, .int .i64 p, .int .i64 d] 48)).alloc (.cells #[.int .u64 0, .bool false] 76)) (w.heap.size) [.int .u64 mh, .int .u64 ml, .int .i64 X, .bool false, .int .i64 p, .int .i64 d] ∧ Bk ((w.alloc (.cells #[.int .u64 mh, .int .u64 ml, .int .i64 X, .bool false, .int .i64 p, .int .i64 d] 48)).alloc (.cells #[.int .u64 0, .bool false] 76)) (w.heap.size + 1) [.int .u64 0, .bool false] ∧ Below w.heap.size w ((w.alloc (.cells #[.int .u64 mh, .int .u64 ml, .int .i64 X, .bool false, .int .i64 p, .int .i64 d] 48)).alloc (.cells #[.int .u64 0, .bool false] 76))) := ⟨(Bk.newL w [.int .u64 mh, .int .u64 ml, .int .i64 X, .bool false, .int .i64 p, .int .i64 d] 48).step ((Below.refl _ _).alloc (Nat.le_refl _) _), ((by have q := Bk.newL (w.alloc (.cells #[.int .u64 mh, .int .u64 ml, .int .i64 X, .bool false, .int .i64 p, .int .i64 d] 48)) [.int .u64 0, .bool false] 76; simpa using q) : Bk ((w.alloc (.cells #[.int .u64 mh, .int .u64 ml, .int .i64 X, .bool false, .int .i64 p, .int .i64 d] 48)).alloc (.cells #[.int .u64 0, .bool false] 76)) (w.heap.size + 1) [.int .u64 0, .bool false]), (((Below.refl w.heap.size w)).alloc (Nat.le_refl _) _).alloc ((((Below.refl w.heap.size w)).alloc (Nat.le_refl _) _).size) _⟩
 go_enter Tryz.func34, Tryz.ntmps34
 go_upto_region 1 with fail
 generalize ((w.alloc (.cells #[.int .u64 mh, .int .u64 ml, .int .i64 X, .bool false, .int .i64 p, .int .i64 d] 48)).alloc (.cells #[.int .u64 0, .bool false] 76)) = w1 at *
 have l1_0 := F0.out.1.lt
 have a1_0_0 := F0.out.1.cell 0 _ rfl
 have f1_0_0 := F0.out.1.fz 0
 have a1_0_1 := F0.out.1.cell 1 _ rfl
 have f1_0_1 := F0.out.1.fz 1
 have a1_0_2 := F0.out.1.cell 2 _ rfl
 have f1_0_2 := F0.out.1.fz 2
 have a1_0_3 := F0.out.1.cell 3 _ rfl
 have f1_0_3 := F0.out.1.fz 3
 have a1_0_4 := F0.out.1.cell 4 _ rfl
 have f1_0_4 := F0.out.1.fz 4
 have a1_0_5 := F0.out.1.cell 5 _ rfl
 have f1_0_5 := F0.out.1.fz 5
 have l1_1 := F0.out.2.1.lt
 have a1_1_0 := F0.out.2.1.cell 0 _ rfl
 have f1_1_0 := F0.out.2.1.fz 0
 have a1_1_1 := F0.out.2.1.cell 1 _ rfl
 have f1_1_1 := F0.out.2.1.fz 1
 have ne1_0_1 : ¬ w.heap.size = w.heap.size + 1 := by omega
 have ne1_1_0 : ¬ w.heap.size + 1 = w.heap.size := by omega
 go_wp2_with fail
 all_goals first | (exfalso; omega) | skip
 refine (HM _).mono ?_
 rintro o2 w2 ⟨rfl, bb⟩
 have F1 : Hid (Bk w2 (w.heap.size) [.int .u64 mh, .int .u64 ml, .int .i64 X, .bool false, .int .i64 p, .int .i64 d] ∧ Bk w2 (w.heap.size + 1) [.int .u64 0, .bool false] ∧ Below w.heap.size w w2) := ⟨(F0.out.1).step bb, (F0.out.2.1).step bb, (F0.out.2.2).trans (bb.mono (F0.out.2.2).size)⟩
 clear F0
 clear bb
 clear l1_0 a1_0_0 f1_0_0 a1_0_1 f1_0_1 a1_0_2 f1_0_2 a1_0_3 f1_0_3 a1_0_4 f1_0_4 a1_0_5 f1_0_5 l1_1 a1_1_0 f1_1_0 a1_1_1 f1_1_1
 have lt0_2 := (F1.out.1).lt
 have lt1_2 := (F1.out.2.1).lt
 have le2 := (F1.out.2.2).size
 have F2 : Hid (Bk (w2.alloc (.cells #[.int .u64 h, .int .u64 l] 44)) (w.heap.size) [.int .u64 mh, .int .u64 ml, .int .i64 X, .bool false, .int .i64 p, .int .i64 d] ∧ Bk (w2.alloc (.cells #[.int .u64 h, .int .u64 l] 44)) (w.heap.size + 1) [.int .u64 0, .bool false] ∧ Bk (w2.alloc (.cells #[.int .u64 h, .int .u64 l] 44)) (w2.heap.size) [.int .u64 h, .int .u64 l] ∧ Below w.heap.size w (w2.alloc (.cells #[.int .u64 h, .int .u64 l] 44))) := ⟨(F1.out.1).step ((Below.refl _ _).alloc (Nat.le_refl _) _), (F1.out.2.1).step ((Below.refl _ _).alloc (Nat.le_refl _) _), Bk.newL w2 [.int .u64 h, .int .u64 l] 44, (F1.out.2.2).alloc ((F1.out.2.2).size) _⟩
 clear F1
 go_upto_region 2 with fail
 generalize (w2.alloc (.cells #[.int .u64 h, .int .u64 l] 44)) = w3 at *
 have l2_0 := F2.out.1.lt
 have a2_0_0 := F2.out.1.cell 0 _ rfl
 have f2_0_0 := F2.out.1.fz 0
 have a2_0_1 := F2.out.1.cell 1 _ rfl
 have f2_0_1 := F2.out.1.fz 1
 have a2_0_2 := F2.out.1.cell 2 _ rfl
 have f2_0_2 := F2.out.1.fz 2
 have a2_0_3 := F2.out.1.cell 3 _ rfl
 have f2_0_3 := F2.out.1.fz 3
 have a2_0_4 := F2.out.1.cell 4 _ rfl
 have f2_0_4 := F2.out.1.fz 4
 have a2_0_5 := F2.out.1.cell 5 _ rfl
 have f2_0_5 := F2.out.1.fz 5
 have l2_1 := F2.out.2.1.lt
 have a2_1_0 := F2.out.2.1.cell 0 _ rfl
 have f2_1_0 := F2.out.2.1.fz 0
 have a2_1_1 := F2.out.2.1.cell 1 _ rfl
 have f2_1_1 := F2.out.2.1.fz 1
 have l2_2 := F2.out.2.2.1.lt
 have a2_2_0 := F2.out.2.2.1.cell 0 _ rfl
 have f2_2_0 := F2.out.2.2.1.fz 0
 have a2_2_1 := F2.out.2.2.1.cell 1 _ rfl
 have f2_2_1 := F2.out.2.2.1.fz 1
 have ne2_0_1 : ¬ w.heap.size = w.heap.size + 1 := by omega
 have ne2_0_2 : ¬ w.heap.size = w2.heap.size := by omega
 have ne2_1_0 : ¬ w.heap.size + 1 = w.heap.size := by omega
 have ne2_1_2 : ¬ w.heap.size + 1 = w2.heap.size := by omega
 have ne2_2_0 : ¬ w2.heap.size = w.heap.size := by omega
 have ne2_2_1 : ¬ w2.heap.size = w.heap.size + 1 := by omega
 go_wp2_with fail
 all_goals first | (exfalso; omega) | skip
 refine (HA _).mono ?_
 rintro o4 w4 ⟨rfl, bb⟩
 have F3 : Hid (Bk w4 (w.heap.size) [.int .u64 mh, .int .u64 ml, .int .i64 X, .bool false, .int .i64 p, .int .i64 d] ∧ Bk w4 (w.heap.size + 1) [.int .u64 0, .bool false] ∧ Bk w4 (w2.heap.size) [.int .u64 h, .int .u64 l] ∧ Below w.heap.size w w4) := ⟨(F2.out.1).step bb, (F2.out.2.1).step bb, (F2.out.2.2.1).step bb, (F2.out.2.2.2).trans (bb.mono (F2.out.2.2.2).size)⟩
 clear F2
 clear bb
 clear l2_0 a2_0_0 f2_0_0 a2_0_1 f2_0_1 a2_0_2 f2_0_2 a2_0_3 f2_0_3 a2_0_4 f2_0_4 a2_0_5 f2_0_5 l2_1 a2_1_0 f2_1_0 a2_1_1 f2_1_1 l2_2 a2_2_0 f2_2_0 a2_2_1 f2_2_1
 have lt0_3 := (F3.out.1).lt
 have lt1_3 := (F3.out.2.1).lt
 have lt2_3 := (F3.out.2.2.1).lt
 have le3 := (F3.out.2.2.2).size
 have F4 : Hid (Bk (w4.alloc (.cells #[.int .u64 h2, .int .u64 l2] 44)) (w.heap.size) [.int .u64 mh, .int .u64 ml, .int .i64 X, .bool false, .int .i64 p, .int .i64 d] ∧ Bk (w4.alloc (.cells #[.int .u64 h2, .int .u64 l2] 44)) (w.heap.size + 1) [.int .u64 0, .bool false] ∧ Bk (w4.alloc (.cells #[.int .u64 h2, .int .u64 l2] 44)) (w2.heap.size) [.int .u64 h, .int .u64 l] ∧ Bk (w4.alloc (.cells #[.int .u64 h2, .int .u64 l2] 44)) (w4.heap.size) [.int .u64 h2, .int .u64 l2] ∧ Below w.heap.size w (w4.alloc (.cells #[.int .u64 h2, .int .u64 l2] 44))) := ⟨(F3.out.1).step ((Below.refl _ _).alloc (Nat.le_refl _) _), (F3.out.2.1).step ((Below.refl _ _).alloc (Nat.le_refl _) _), (F3.out.2.2.1).step ((Below.refl _ _).alloc (Nat.le_refl _) _), Bk.newL w4 [.int .u64 h2, .int .u64 l2] 44, (F3.out.2.2.2).alloc ((F3.out.2.2.2).size) _⟩
 clear F3
 go_upto_region 6 with fail
 generalize (w4.alloc (.cells #[.int .u64 h2, .int .u64 l2] 44)) = w5 at *
 have l3_0 := F4.out.1.lt
 have a3_0_0 := F4.out.1.cell 0 _ rfl
 have f3_0_0 := F4.out.1.fz 0
 have a3_0_1 := F4.out.1.cell 1 _ rfl
 have f3_0_1 := F4.out.1.fz 1
 have a3_0_2 := F4.out.1.cell 2 _ rfl
 have f3_0_2 := F4.out.1.fz 2
 have a3_0_3 := F4.out.1.cell 3 _ rfl
 have f3_0_3 := F4.out.1.fz 3
 have a3_0_4 := F4.out.1.cell 4 _ rfl
 have f3_0_4 := F4.out.1.fz 4
 have a3_0_5 := F4.out.1.cell 5 _ rfl
 have f3_0_5 := F4.out.1.fz 5
 have l3_1 := F4.out.2.1.lt
 have a3_1_0 := F4.out.2.1.cell 0 _ rfl
 have f3_1_0 := F4.out.2.1.fz 0
 have a3_1_1 := F4.out.2.1.cell 1 _ rfl
 have f3_1_1 := F4.out.2.1.fz 1
 have l3_2 := F4.out.2.2.1.lt
 have a3_2_0 := F4.out.2.2.1.cell 0 _ rfl
 have f3_2_0 := F4.out.2.2.1.fz 0
 have a3_2_1 := F4.out.2.2.1.cell 1 _ rfl
 have f3_2_1 := F4.out.2.2.1.fz 1
 have l3_3 := F4.out.2.2.2.1.lt
 have a3_3_0 := F4.out.2.2.2.1.cell 0 _ rfl
 have f3_3_0 := F4.out.2.2.2.1.fz 0
 have a3_3_1 := F4.out.2.2.2.1.cell 1 _ rfl
 have f3_3_1 := F4.out.2.2.2.1.fz 1
 have ne3_0_1 : ¬ w.heap.size = w.heap.size + 1 := by omega
 have ne3_0_2 : ¬ w.heap.size = w2.heap.size := by omega
 have ne3_0_3 : ¬ w.heap.size = w4.heap.size := by omega
 have ne3_1_0 : ¬ w.heap.size + 1 = w.heap.size := by omega
 have ne3_1_2 : ¬ w.heap.size + 1 = w2.heap.size := by omega
 have ne3_1_3 : ¬ w.heap.size + 1 = w4.heap.size := by omega
 have ne3_2_0 : ¬ w2.heap.size = w.heap.size := by omega
 have ne3_2_1 : ¬ w2.heap.size = w.heap.size + 1 := by omega
 have ne3_2_3 : ¬ w2.heap.size = w4.heap.size := by omega
 have ne3_3_0 : ¬ w4.heap.size = w.heap.size := by omega
 have ne3_3_1 : ¬ w4.heap.size = w.heap.size + 1 := by omega
 have ne3_3_2 : ¬ w4.heap.size = w2.heap.size := by omega
 rcases hcy.out with ⟨rfl, rfl⟩ | ⟨rfl, ht⟩
 · exact absurd (hu2.symm.trans hu1) e12
 all_goals clear hcy
 all_goals
  have hq : (u2 == u1) = false := beq_eq_false_iff_ne.mpr e12
  clear e12
  go_wp2_with fail
  all_goals first | (exfalso; omega) | skip
  refine (HF _).mono ?_
  rintro o6 w6 ⟨rfl, bb⟩
  have F5 : Hid (Bk w6 (w.heap.size) [.int .u64 mh, .int .u64 ml, .int .i64 X, .bool false, .int .i64 p, .int .i64 d] ∧ Bk w6 (w.heap.size + 1) [.int .u64 0, .bool false] ∧ Bk w6 (w2.heap.size) [.int .u64 h, .int .u64 l] ∧ Bk w6 (w4.heap.size) [.int .u64 h2, .int .u64 l2] ∧ Below w.heap.size w w6) := ⟨(F4.out.1).step bb, (F4.out.2.1).step bb, (F4.out.2.2.1).step bb, (F4.out.2.2.2.1).step bb, (F4.out.2.2.2.2).trans (bb.mono (F4.out.2.2.2.2).size)⟩
  clear F4
  clear bb
  clear l3_0 a3_0_0 f3_0_0 a3_0_1 f3_0_1 a3_0_2 f3_0_2 a3_0_3 f3_0_3 a3_0_4 f3_0_4 a3_0_5 f3_0_5 l3_1 a3_1_0 f3_1_0 a3_1_1 f3_1_1 l3_2 a3_2_0 f3_2_0 a3_2_1 f3_2_1 l3_3 a3_3_0 f3_3_0 a3_3_1 f3_3_1
  have l4_0 := F5.out.1.lt
  have a4_0_0 := F5.out.1.cell 0 _ rfl
  have f4_0_0 := F5.out.1.fz 0
  have a4_0_1 := F5.out.1.cell 1 _ rfl
  have f4_0_1 := F5.out.1.fz 1
  have a4_0_2 := F5.out.1.cell 2 _ rfl
  have f4_0_2 := F5.out.1.fz 2
  have a4_0_3 := F5.out.1.cell 3 _ rfl
  have f4_0_3 := F5.out.1.fz 3
  have a4_0_4 := F5.out.1.cell 4 _ rfl
  have f4_0_4 := F5.out.1.fz 4
  have a4_0_5 := F5.out.1.cell 5 _ rfl
  have f4_0_5 := F5.out.1.fz 5
  have l4_1 := F5.out.2.1.lt
  have a4_1_0 := F5.out.2.1.cell 0 _ rfl
  have f4_1_0 := F5.out.2.1.fz 0
  have a4_1_1 := F5.out.2.1.cell 1 _ rfl
  have f4_1_1 := F5.out.2.1.fz 1
  have l4_2 := F5.out.2.2.1.lt
  have a4_2_0 := F5.out.2.2.1.cell 0 _ rfl
  have f4_2_0 := F5.out.2.2.1.fz 0
  have a4_2_1 := F5.out.2.2.1.cell 1 _ rfl
  have f4_2_1 := F5.out.2.2.1.fz 1
  have l4_3 := F5.out.2.2.2.1.lt
  have a4_3_0 := F5.out.2.2.2.1.cell 0 _ rfl
  have f4_3_0 := F5.out.2.2.2.1.fz 0
  have a4_3_1 := F5.out.2.2.2.1.cell 1 _ rfl
  have f4_3_1 := F5.out.2.2.2.1.fz 1
  have ne4_0_1 : ¬ w.heap.size = w.heap.size + 1 := by omega
  have ne4_0_2 : ¬ w.heap.size = w2.heap.size := by omega
  have ne4_0_3 : ¬ w.heap.size = w4.heap.size := by omega
  have ne4_1_0 : ¬ w.heap.size + 1 = w.heap.size := by omega
  have ne4_1_2 : ¬ w.heap.size + 1 = w2.heap.size := by omega
  have ne4_1_3 : ¬ w.heap.size + 1 = w4.heap.size := by omega
  have ne4_2_0 : ¬ w2.heap.size = w.heap.size := by omega
  have ne4_2_1 : ¬ w2.heap.size = w.heap.size + 1 := by omega
  have ne4_2_3 : ¬ w2.heap.size = w4.heap.size := by omega
  have ne4_3_0 : ¬ w4.heap.size = w.heap.size := by omega
  have ne4_3_1 : ¬ w4.heap.size = w.heap.size + 1 := by omega
  have ne4_3_2 : ¬ w4.heap.size = w2.heap.size := by omega
  go_wp2
  refine bodyPost_ret (v := .tuple #[.agg #[.int .u64 0, .bool false], .bool false]) (by simp [results, Tryz.results34, go_sem, World.cell?_setCell_same, World.cell?_setCell_other, *]) rfl ⟨rfl, ?_⟩
  repeat (first | refine Below.setCell ?_ (by first | exact Nat.le_refl _ | (dsimp only; omega)) _ | refine Below.alloc ?_ (by first | exact Nat.le_refl _ | omega | (simp; omega)) _ | refine Below.drew ?_)
  exact F5.out.2.2.2.2
theorem hc_err {w : World} {mh ml X p d : Int} {F : Nat} {t h l u1 : Int} (d0 : 0 ≤ d) (d9 : d ≤ 63) (hu1 : t / 2 ^ d.toNat = u1) {h2 l2 t2 u2 : Int} {cy : Bool} (hu2 : t2 / 2 ^ d.toNat = u2) {f5 : Nat} {T : TypeId} {V : Value} (e12 : u2 ≠ u1) (HM : ∀ W, Calls Tryz.prog 70 #[.agg #[.int .u64 mh, .int .u64 ml], .int .u64 (F : Int)] W fun e w' => e = .returned (.tuple #[.int .u64 t, .agg #[.int .u64 h, .int .u64 l]]) ∧ Below W.heap.size W w') (HA : ∀ W, Calls Tryz.prog 71 #[.agg #[.int .u64 h, .int .u64 l], .agg #[.int .u64 0, .int .u64 (F : Int)]] W fun e w' => e = .returned (.tuple #[.agg #[.int .u64 h2, .int .u64 l2], .bool cy]) ∧ Below W.heap.size W w') (hcy : Hid ((cy = false ∧ t = t2) ∨ (cy = true ∧ IntKind.u64.wrap (t + 1) = t2))) (HF : ∀ W, Calls Tryz.prog 72 #[.int .i64 p] W fun e w' => e = .returned (.tuple #[.int .u64 (f5 : Int), .iface T V]) ∧ Below W.heap.size W w') :
 Calls Tryz.prog 34 #[.agg #[.int .u64 mh, .int .u64 ml, .int .i64 X, .bool false, .int .i64 p, .int .i64 d], .int .u64 (F : Int)] w fun x w' => x = .returned (.tuple #[.agg #[.int .u64 0, .bool false], .bool false]) ∧ Below w.heap.size w w' := by
 have F0 : Hid (Bk ((w.alloc (.cells #[.int .u64 mh, .int .u64 ml, .int .i64 X, .bool false, .int .i64 p, .int .i64 d] 48)).alloc (.cells #[.int .u64 0, .bool false] 76)) (w.heap.size) [.int .u64 mh, .int .u64 ml, .int .i64 X, .bool false, .int .i64 p, .int .i64 d] ∧ Bk ((w.alloc (.cells #[.int .u64 mh, .int .u64 ml, .int .i64 X, .bool false, .int .i64 p, .int .i64 d] 48)).alloc (.cells #[.int .u64 0, .bool false] 76)) (w.heap.size + 1) [.int .u64 0, .bool false] ∧ Below w.heap.size w ((w.alloc (.cells #[.int .u64 mh, .int .u64 ml, .int .i64 X, .bool false, .int .i64 p, .int .i64 d] 48)).alloc (.cells #[.int .u64 0, .bool false] 76))) := ⟨(Bk.newL w [.int .u64 mh, .int .u64 ml, .int .i64 X, .bool false, .int .i64 p, .int .i64 d] 48).step ((Below.refl _ _).alloc (Nat.le_refl _) _), ((by have q := Bk.newL (w.alloc (.cells #[.int .u64 mh, .int .u64 ml, .int .i64 X, .bool false, .int .i64 p, .int .i64 d] 48)) [.int .u64 0, .bool false] 76; simpa using q) : Bk ((w.alloc (.cells #[.int .u64 mh, .int .u64 ml, .int .i64 X, .bool false, .int .i64 p, .int .i64 d] 48)).alloc (.cells #[.int .u64 0, .bool false] 76)) (w.heap.size + 1) [.int .u64 0, .bool false]), (((Below.refl w.heap.size w)).alloc (Nat.le_refl _) _).alloc ((((Below.refl w.heap.size w)).alloc (Nat.le_refl _) _).size) _⟩
 go_enter Tryz.func34, Tryz.ntmps34
 go_upto_region 1 with fail
 generalize ((w.alloc (.cells #[.int .u64 mh, .int .u64 ml, .int .i64 X, .bool false, .int .i64 p, .int .i64 d] 48)).alloc (.cells #[.int .u64 0, .bool false] 76)) = w1 at *
 have l1_0 := F0.out.1.lt
 have a1_0_0 := F0.out.1.cell 0 _ rfl
 have f1_0_0 := F0.out.1.fz 0
 have a1_0_1 := F0.out.1.cell 1 _ rfl
 have f1_0_1 := F0.out.1.fz 1
 have a1_0_2 := F0.out.1.cell 2 _ rfl
 have f1_0_2 := F0.out.1.fz 2
 have a1_0_3 := F0.out.1.cell 3 _ rfl
 have f1_0_3 := F0.out.1.fz 3
 have a1_0_4 := F0.out.1.cell 4 _ rfl
 have f1_0_4 := F0.out.1.fz 4
 have a1_0_5 := F0.out.1.cell 5 _ rfl
 have f1_0_5 := F0.out.1.fz 5
 have l1_1 := F0.out.2.1.lt
 have a1_1_0 := F0.out.2.1.cell 0 _ rfl
 have f1_1_0 := F0.out.2.1.fz 0
 have a1_1_1 := F0.out.2.1.cell 1 _ rfl
 have f1_1_1 := F0.out.2.1.fz 1
 have ne1_0_1 : ¬ w.heap.size = w.heap.size + 1 := by omega
 have ne1_1_0 : ¬ w.heap.size + 1 = w.heap.size := by omega
 go_wp2_with fail
 all_goals first | (exfalso; omega) | skip
 refine (HM _).mono ?_
 rintro o2 w2 ⟨rfl, bb⟩
 have F1 : Hid (Bk w2 (w.heap.size) [.int .u64 mh, .int .u64 ml, .int .i64 X, .bool false, .int .i64 p, .int .i64 d] ∧ Bk w2 (w.heap.size + 1) [.int .u64 0, .bool false] ∧ Below w.heap.size w w2) := ⟨(F0.out.1).step bb, (F0.out.2.1).step bb, (F0.out.2.2).trans (bb.mono (F0.out.2.2).size)⟩
 clear F0
 clear bb
 clear l1_0 a1_0_0 f1_0_0 a1_0_1 f1_0_1 a1_0_2 f1_0_2 a1_0_3 f1_0_3 a1_0_4 f1_0_4 a1_0_5 f1_0_5 l1_1 a1_1_0 f1_1_0 a1_1_1 f1_1_1
 have lt0_2 := (F1.out.1).lt
 have lt1_2 := (F1.out.2.1).lt
 have le2 := (F1.out.2.2).size
 have F2 : Hid (Bk (w2.alloc (.cells #[.int .u64 h, .int .u64 l] 44)) (w.heap.size) [.int .u64 mh, .int .u64 ml, .int .i64 X, .bool false, .int .i64 p, .int .i64 d] ∧ Bk (w2.alloc (.cells #[.int .u64 h, .int .u64 l] 44)) (w.heap.size + 1) [.int .u64 0, .bool false] ∧ Bk (w2.alloc (.cells #[.int .u64 h, .int .u64 l] 44)) (w2.heap.size) [.int .u64 h, .int .u64 l] ∧ Below w.heap.size w (w2.alloc (.cells #[.int .u64 h, .int .u64 l] 44))) := ⟨(F1.out.1).step ((Below.refl _ _).alloc (Nat.le_refl _) _), (F1.out.2.1).step ((Below.refl _ _).alloc (Nat.le_refl _) _), Bk.newL w2 [.int .u64 h, .int .u64 l] 44, (F1.out.2.2).alloc ((F1.out.2.2).size) _⟩
 clear F1
 go_upto_region 2 with fail
 generalize (w2.alloc (.cells #[.int .u64 h, .int .u64 l] 44)) = w3 at *
 have l2_0 := F2.out.1.lt
 have a2_0_0 := F2.out.1.cell 0 _ rfl
 have f2_0_0 := F2.out.1.fz 0
 have a2_0_1 := F2.out.1.cell 1 _ rfl
 have f2_0_1 := F2.out.1.fz 1
 have a2_0_2 := F2.out.1.cell 2 _ rfl
 have f2_0_2 := F2.out.1.fz 2
 have a2_0_3 := F2.out.1.cell 3 _ rfl
 have f2_0_3 := F2.out.1.fz 3
 have a2_0_4 := F2.out.1.cell 4 _ rfl
 have f2_0_4 := F2.out.1.fz 4
 have a2_0_5 := F2.out.1.cell 5 _ rfl
 have f2_0_5 := F2.out.1.fz 5
 have l2_1 := F2.out.2.1.lt
 have a2_1_0 := F2.out.2.1.cell 0 _ rfl
 have f2_1_0 := F2.out.2.1.fz 0
 have a2_1_1 := F2.out.2.1.cell 1 _ rfl
 have f2_1_1 := F2.out.2.1.fz 1
 have l2_2 := F2.out.2.2.1.lt
 have a2_2_0 := F2.out.2.2.1.cell 0 _ rfl
 have f2_2_0 := F2.out.2.2.1.fz 0
 have a2_2_1 := F2.out.2.2.1.cell 1 _ rfl
 have f2_2_1 := F2.out.2.2.1.fz 1
 have ne2_0_1 : ¬ w.heap.size = w.heap.size + 1 := by omega
 have ne2_0_2 : ¬ w.heap.size = w2.heap.size := by omega
 have ne2_1_0 : ¬ w.heap.size + 1 = w.heap.size := by omega
 have ne2_1_2 : ¬ w.heap.size + 1 = w2.heap.size := by omega
 have ne2_2_0 : ¬ w2.heap.size = w.heap.size := by omega
 have ne2_2_1 : ¬ w2.heap.size = w.heap.size + 1 := by omega
 go_wp2_with fail
 all_goals first | (exfalso; omega) | skip
 refine (HA _).mono ?_
 rintro o4 w4 ⟨rfl, bb⟩
 have F3 : Hid (Bk w4 (w.heap.size) [.int .u64 mh, .int .u64 ml, .int .i64 X, .bool false, .int .i64 p, .int .i64 d] ∧ Bk w4 (w.heap.size + 1) [.int .u64 0, .bool false] ∧ Bk w4 (w2.heap.size) [.int .u64 h, .int .u64 l] ∧ Below w.heap.size w w4) := ⟨(F2.out.1).step bb, (F2.out.2.1).step bb, (F2.out.2.2.1).step bb, (F2.out.2.2.2).trans (bb.mono (F2.out.2.2.2).size)⟩
 clear F2
 clear bb
 clear l2_0 a2_0_0 f2_0_0 a2_0_1 f2_0_1 a2_0_2 f2_0_2 a2_0_3 f2_0_3 a2_0_4 f2_0_4 a2_0_5 f2_0_5 l2_1 a2_1_0 f2_1_0 a2_1_1 f2_1_1 l2_2 a2_2_0 f2_2_0 a2_2_1 f2_2_1
 have lt0_3 := (F3.out.1).lt
 have lt1_3 := (F3.out.2.1).lt
 have lt2_3 := (F3.out.2.2.1).lt
 have le3 := (F3.out.2.2.2).size
 have F4 : Hid (Bk (w4.alloc (.cells #[.int .u64 h2, .int .u64 l2] 44)) (w.heap.size) [.int .u64 mh, .int .u64 ml, .int .i64 X, .bool false, .int .i64 p, .int .i64 d] ∧ Bk (w4.alloc (.cells #[.int .u64 h2, .int .u64 l2] 44)) (w.heap.size + 1) [.int .u64 0, .bool false] ∧ Bk (w4.alloc (.cells #[.int .u64 h2, .int .u64 l2] 44)) (w2.heap.size) [.int .u64 h, .int .u64 l] ∧ Bk (w4.alloc (.cells #[.int .u64 h2, .int .u64 l2] 44)) (w4.heap.size) [.int .u64 h2, .int .u64 l2] ∧ Below w.heap.size w (w4.alloc (.cells #[.int .u64 h2, .int .u64 l2] 44))) := ⟨(F3.out.1).step ((Below.refl _ _).alloc (Nat.le_refl _) _), (F3.out.2.1).step ((Below.refl _ _).alloc (Nat.le_refl _) _), (F3.out.2.2.1).step ((Below.refl _ _).alloc (Nat.le_refl _) _), Bk.newL w4 [.int .u64 h2, .int .u64 l2] 44, (F3.out.2.2.2).alloc ((F3.out.2.2.2).size) _⟩
 clear F3
 go_upto_region 6 with fail
 generalize (w4.alloc (.cells #[.int .u64 h2, .int .u64 l2] 44)) = w5 at *
 have l3_0 := F4.out.1.lt
 have a3_0_0 := F4.out.1.cell 0 _ rfl
 have f3_0_0 := F4.out.1.fz 0
 have a3_0_1 := F4.out.1.cell 1 _ rfl
 have f3_0_1 := F4.out.1.fz 1
 have a3_0_2 := F4.out.1.cell 2 _ rfl
 have f3_0_2 := F4.out.1.fz 2
 have a3_0_3 := F4.out.1.cell 3 _ rfl
 have f3_0_3 := F4.out.1.fz 3
 have a3_0_4 := F4.out.1.cell 4 _ rfl
 have f3_0_4 := F4.out.1.fz 4
 have a3_0_5 := F4.out.1.cell 5 _ rfl
 have f3_0_5 := F4.out.1.fz 5
 have l3_1 := F4.out.2.1.lt
 have a3_1_0 := F4.out.2.1.cell 0 _ rfl
 have f3_1_0 := F4.out.2.1.fz 0
 have a3_1_1 := F4.out.2.1.cell 1 _ rfl
 have f3_1_1 := F4.out.2.1.fz 1
 have l3_2 := F4.out.2.2.1.lt
 have a3_2_0 := F4.out.2.2.1.cell 0 _ rfl
 have f3_2_0 := F4.out.2.2.1.fz 0
 have a3_2_1 := F4.out.2.2.1.cell 1 _ rfl
 have f3_2_1 := F4.out.2.2.1.fz 1
 have l3_3 := F4.out.2.2.2.1.lt
 have a3_3_0 := F4.out.2.2.2.1.cell 0 _ rfl
 have f3_3_0 := F4.out.2.2.2.1.fz 0
 have a3_3_1 := F4.out.2.2.2.1.cell 1 _ rfl
 have f3_3_1 := F4.out.2.2.2.1.fz 1
 have ne3_0_1 : ¬ w.heap.size = w.heap.size + 1 := by omega
 have ne3_0_2 : ¬ w.heap.size = w2.heap.size := by omega
 have ne3_0_3 : ¬ w.heap.size = w4.heap.size := by omega
 have ne3_1_0 : ¬ w.heap.size + 1 = w.heap.size := by omega
 have ne3_1_2 : ¬ w.heap.size + 1 = w2.heap.size := by omega
 have ne3_1_3 : ¬ w.heap.size + 1 = w4.heap.size := by omega
 have ne3_2_0 : ¬ w2.heap.size = w.heap.size := by omega
 have ne3_2_1 : ¬ w2.heap.size = w.heap.size + 1 := by omega
 have ne3_2_3 : ¬ w2.heap.size = w4.heap.size := by omega
 have ne3_3_0 : ¬ w4.heap.size = w.heap.size := by omega
 have ne3_3_1 : ¬ w4.heap.size = w.heap.size + 1 := by omega
 have ne3_3_2 : ¬ w4.heap.size = w2.heap.size := by omega
 rcases hcy.out with ⟨rfl, rfl⟩ | ⟨rfl, ht⟩
 · exact absurd (hu2.symm.trans hu1) e12
 all_goals clear hcy
 all_goals
  have hq : (u2 == u1) = false := beq_eq_false_iff_ne.mpr e12
  clear e12
  go_wp2_with fail
  all_goals first | (exfalso; omega) | skip
  refine (HF _).mono ?_
  rintro o6 w6 ⟨rfl, bb⟩
  have F5 : Hid (Bk w6 (w.heap.size) [.int .u64 mh, .int .u64 ml, .int .i64 X, .bool false, .int .i64 p, .int .i64 d] ∧ Bk w6 (w.heap.size + 1) [.int .u64 0, .bool false] ∧ Bk w6 (w2.heap.size) [.int .u64 h, .int .u64 l] ∧ Bk w6 (w4.heap.size) [.int .u64 h2, .int .u64 l2] ∧ Below w.heap.size w w6) := ⟨(F4.out.1).step bb, (F4.out.2.1).step bb, (F4.out.2.2.1).step bb, (F4.out.2.2.2.1).step bb, (F4.out.2.2.2.2).trans (bb.mono (F4.out.2.2.2.2).size)⟩
  clear F4
  clear bb
  clear l3_0 a3_0_0 f3_0_0 a3_0_1 f3_0_1 a3_0_2 f3_0_2 a3_0_3 f3_0_3 a3_0_4 f3_0_4 a3_0_5 f3_0_5 l3_1 a3_1_0 f3_1_0 a3_1_1 f3_1_1 l3_2 a3_2_0 f3_2_0 a3_2_1 f3_2_1 l3_3 a3_3_0 f3_3_0 a3_3_1 f3_3_1
  have l4_0 := F5.out.1.lt
  have a4_0_0 := F5.out.1.cell 0 _ rfl
  have f4_0_0 := F5.out.1.fz 0
  have a4_0_1 := F5.out.1.cell 1 _ rfl
  have f4_0_1 := F5.out.1.fz 1
  have a4_0_2 := F5.out.1.cell 2 _ rfl
  have f4_0_2 := F5.out.1.fz 2
  have a4_0_3 := F5.out.1.cell 3 _ rfl
  have f4_0_3 := F5.out.1.fz 3
  have a4_0_4 := F5.out.1.cell 4 _ rfl
  have f4_0_4 := F5.out.1.fz 4
  have a4_0_5 := F5.out.1.cell 5 _ rfl
  have f4_0_5 := F5.out.1.fz 5
  have l4_1 := F5.out.2.1.lt
  have a4_1_0 := F5.out.2.1.cell 0 _ rfl
  have f4_1_0 := F5.out.2.1.fz 0
  have a4_1_1 := F5.out.2.1.cell 1 _ rfl
  have f4_1_1 := F5.out.2.1.fz 1
  have l4_2 := F5.out.2.2.1.lt
  have a4_2_0 := F5.out.2.2.1.cell 0 _ rfl
  have f4_2_0 := F5.out.2.2.1.fz 0
  have a4_2_1 := F5.out.2.2.1.cell 1 _ rfl
  have f4_2_1 := F5.out.2.2.1.fz 1
  have l4_3 := F5.out.2.2.2.1.lt
  have a4_3_0 := F5.out.2.2.2.1.cell 0 _ rfl
  have f4_3_0 := F5.out.2.2.2.1.fz 0
  have a4_3_1 := F5.out.2.2.2.1.cell 1 _ rfl
  have f4_3_1 := F5.out.2.2.2.1.fz 1
  have ne4_0_1 : ¬ w.heap.size = w.heap.size + 1 := by omega
  have ne4_0_2 : ¬ w.heap.size = w2.heap.size := by omega
  have ne4_0_3 : ¬ w.heap.size = w4.heap.size := by omega
  have ne4_1_0 : ¬ w.heap.size + 1 = w.heap.size := by omega
  have ne4_1_2 : ¬ w.heap.size + 1 = w2.heap.size := by omega
  have ne4_1_3 : ¬ w.heap.size + 1 = w4.heap.size := by omega
  have ne4_2_0 : ¬ w2.heap.size = w.heap.size := by omega
  have ne4_2_1 : ¬ w2.heap.size = w.heap.size + 1 := by omega
  have ne4_2_3 : ¬ w2.heap.size = w4.heap.size := by omega
  have ne4_3_0 : ¬ w4.heap.size = w.heap.size := by omega
  have ne4_3_1 : ¬ w4.heap.size = w.heap.size + 1 := by omega
  have ne4_3_2 : ¬ w4.heap.size = w2.heap.size := by omega
  go_wp2
  refine bodyPost_ret (v := .tuple #[.agg #[.int .u64 0, .bool false], .bool false]) (by simp [results, Tryz.results34, go_sem, World.cell?_setCell_same, World.cell?_setCell_other, *]) rfl ⟨rfl, ?_⟩
  repeat (first | refine Below.setCell ?_ (by first | exact Nat.le_refl _ | (dsimp only; omega)) _ | refine Below.alloc ?_ (by first | exact Nat.le_refl _ | omega | (simp; omega)) _ | refine Below.drew ?_)
  exact F5.out.2.2.2.2
theorem pwT_add (a b : Nat) : pwT (a + b) = pwT a * pwT b := Nat.pow_add 10 a b
theorem pwT_lt {a b : Nat} (h : pwT a < pwT b) : a < b := (Nat.pow_lt_pow_iff_right (by decide)).1 h
theorem dx_near {m : Nat} {e : Int} (hm : m ≤ 18014398509481984) (h1 : -1075 ≤ e) (h2 : e ≤ 971) {s : ByteArray} {p : Int} (D : Dx s p (fv m e)) (h0 : 0 < s.size) : p ≤ 1000 := by
 obtain ⟨k, j, h, he⟩ : ∃ k j, Kj m k j ∧ e = (j : Int) - (k : Int) := by
  rcases Int.lt_or_le e 0 with c | c
  · exact ⟨(-e).toNat, 0, ⟨hm, by omega, by omega, Or.inr rfl⟩, by omega⟩
  · exact ⟨0, e.toNat, ⟨hm, by omega, by omega, Or.inl rfl⟩, by omega⟩
 have w := h.wh
 have f := h.fv he
 obtain ⟨d0, d1, _⟩ := D.some h0
 have a : fv m e < pwT 800 * pwT (R0 - k) := by
  rw [f]
  exact Nat.mul_lt_mul_of_pos_right w (Nat.pow_pos (by decide))
 obtain ⟨e8, h8⟩ : ∃ e8, e8 = 800 := ⟨_, rfl⟩
 rw [← h8, ← pwT_add] at a
 have b : pwT (p + (R0 : Int) - 1).toNat < pwT (e8 + (R0 - k)) := Nat.lt_of_le_of_lt d1 a
 have := pwT_lt b
 omega
structure Fx (u : ByteArray) (o : Int) (n : Int) (v : ByteArray) (k : Int) : Prop where
 way : ((n < 0 ∨ u.size = 0) ∧ v = ⟨#[]⟩ ∧ k = 0) ∨
  (n = 0 ∧ 0 < u.size ∧ upB u false 0 = false ∧ v = ⟨#[]⟩ ∧ k = 0) ∨
  (n = 0 ∧ 0 < u.size ∧ upB u false 0 = true ∧ v = ⟨#[49]⟩ ∧ k = o + 1) ∨
  ∃ (N : Nat) (s1 s2 : ByteArray) (p2 : Int), n = (N : Int) ∧ 0 < N ∧ 0 < u.size ∧ Du u o N s1 s2 p2 ∧ ((N < u.size ∧ upB u false N = true ∧ v = s2 ∧ k = p2) ∨ (¬ (N < u.size ∧ upB u false N = true) ∧ v = s1 ∧ k = o))
theorem rnB_less {X S : Nat} (h : 2 * X < S) : rnB X S = false := by
 unfold rnB
 rw [Nat.mod_eq_of_lt (by omega)]
 exact decide_eq_false (by omega)
theorem rnU_less {X S : Nat} (h : 2 * X < S) : rnU X S = 0 := by
 unfold rnU
 rw [rnB_less h]
 unfold dnU
 rw [if_neg (by decide), Nat.div_eq_of_lt (by omega), Nat.zero_mul]
theorem rn_up {u : ByteArray} {o : Int} {X A : Nat} (G : Dx u o X) (u0 : 0 < u.size) (hA : o + (R0 : Int) = (A : Int)) {n : Nat} (n0 : 0 < n) : (n < u.size ∧ upB u false n = true) ↔ rnB X (10 ^ (A - n)) = true := by
 have S0 : 0 < 10 ^ (A - n) := Nat.pow_pos (by decide)
 unfold rnB
 rw [decide_eq_true_eq]
 by_cases c : n < u.size
 · rw [← up_num G u0 hA n0 c]
   exact ⟨fun h => h.2, fun h => ⟨c, h⟩⟩
 · have mz : X % 10 ^ (A - n) = 0 := by
    have lo := G.lo
    have vl := G.vl
    rw [hA] at vl lo
    rw [← vl, show ((A : Int) - (u.size : Int)).toNat = (A - u.size - (A - n)) + (A - n) by omega, Nat.pow_add, ← Nat.mul_assoc, Nat.mul_mod_left]
   rw [mz]
   constructor
   · intro h; exact absurd h.1 c
   · intro h; omega
theorem rn_up0 {u : ByteArray} {o : Int} {X A : Nat} (G : Dx u o X) (u0 : 0 < u.size) (hA : o + (R0 : Int) = (A : Int)) : upB u false 0 = rnB X (10 ^ A) := by
 obtain ⟨q1, q2⟩ := half_num G u0 hA u0
 obtain ⟨_, _, e1, _⟩ := cut_num G u0 hA u0
 have e0 : X / 10 ^ (A - 0) = 0 := e1
 rw [Nat.sub_zero] at q1 q2 e0
 unfold rnB upB
 rw [Bool.eq_iff_iff, decide_eq_true_eq, q1, q2, e0]
 by_cases c : dgt u 0 = 53
 · rw [if_pos c, Bool.false_or]
   simp only [Bool.or_eq_true, Bool.and_eq_true, decide_eq_true_eq]
   omega
 · rw [if_neg c, decide_eq_true_eq]
   omega
theorem dx_unit {o : Int} {A : Nat} (hA : o + (R0 : Int) = (A : Int)) (h0 : -1099511627776 ≤ o) (h1 : o ≤ 1000) : Dx ⟨#[49]⟩ (o + 1) (10 ^ A) := by
 refine ⟨Or.inr ⟨by decide, by decide, dg_one, by decide, Or.inl (by decide), by omega, by omega⟩, ?_, ?_⟩
 · show ((1 : Nat) : Int) ≤ _
   omega
 · show 1 * 10 ^ (o + 1 + (R0 : Int) - ((1 : Nat) : Int)).toNat = 10 ^ A
   rw [Nat.one_mul]
   congr 1
   omega
theorem fx_ex {u : ByteArray} {o : Int} {X : Nat} (G : Dx u o X) (o1 : o ≤ 1000) (n : Int) : ∃ v k, Fx u o n v k ∧ Dx v k (rnU X (10 ^ (o + (R0 : Int) - n).toNat)) := by
  by_cases u0 : u.size = 0
  · obtain ⟨rfl, rfl⟩ := G.none u0
    refine ⟨⟨#[]⟩, 0, ⟨Or.inl ⟨Or.inr u0, rfl, rfl⟩⟩, ?_⟩
    rw [rnU_less (by rw [Nat.mul_zero]; exact Nat.pow_pos (by decide))]
    exact dx_nought
  · have u1 : 0 < u.size := by omega
    have lo := G.lo
    obtain ⟨A, hA⟩ : ∃ A : Nat, o + (R0 : Int) = (A : Int) := ⟨(o + (R0 : Int)).toNat, by omega⟩
    have top := (G.some u1).2.2
    rw [hA, show ((A : Int)).toNat = A by omega] at top
    rcases Int.lt_trichotomy n 0 with c | c | c
    · refine ⟨⟨#[]⟩, 0, ⟨Or.inl ⟨Or.inl c, rfl, rfl⟩⟩, ?_⟩
      have big : 10 ^ A * 10 ≤ 10 ^ (o + (R0 : Int) - n).toNat := by
        rw [← Nat.pow_succ]
        exact Nat.pow_le_pow_right (by decide) (by omega)
      rw [rnU_less (by omega)]
      exact dx_nought
    · subst c
      rw [hA, show ((A : Int) - 0).toNat = A by omega]
      have e := rn_up0 G u1 hA
      cases r : rnB X (10 ^ A) with
      | false =>
        rw [r] at e
        refine ⟨⟨#[]⟩, 0, ⟨Or.inr (Or.inl ⟨rfl, u1, e, rfl, rfl⟩)⟩, ?_⟩
        unfold rnU
        rw [r, if_neg (by decide)]
        unfold dnU
        rw [Nat.div_eq_of_lt top, Nat.zero_mul]
        exact dx_nought
      | true =>
        rw [r] at e
        refine ⟨⟨#[49]⟩, o + 1, ⟨Or.inr (Or.inr (Or.inl ⟨rfl, u1, e, rfl, rfl⟩))⟩, ?_⟩
        have X0 := G.pos.1 u1
        have S0 : 0 < 10 ^ A := Nat.pow_pos (by decide)
        have m : X % 10 ^ A = X := Nat.mod_eq_of_lt top
        unfold rnU
        rw [r, if_pos rfl, up_is S0 (by omega)]
        unfold dnU
        rw [Nat.div_eq_of_lt top, Nat.zero_mul, Nat.zero_add]
        exact dx_unit hA (G.vn u1).lo o1
    · obtain ⟨N, rfl⟩ : ∃ N : Nat, n = (N : Int) := ⟨n.toNat, by omega⟩
      have N0 : 0 < N := by omega
      obtain ⟨s1, s2, p2, D1, D2, du⟩ := du_all G u1 o1 hA N0
      rw [hA, show ((A : Int) - (N : Int)).toNat = A - N by omega]
      have e := rn_up G u1 hA N0
      by_cases r : rnB X (10 ^ (A - N)) = true
      · have e2 := e.2 r
        refine ⟨s2, p2, ⟨Or.inr (Or.inr (Or.inr ⟨N, s1, s2, p2, rfl, N0, u1, du, Or.inl ⟨e2.1, e2.2, rfl, rfl⟩⟩))⟩, ?_⟩
        unfold rnU
        rw [if_pos r]
        exact D2
      · refine ⟨s1, o, ⟨Or.inr (Or.inr (Or.inr ⟨N, s1, s2, p2, rfl, N0, u1, du, Or.inr ⟨fun h => r (e.1 h), rfl, rfl⟩⟩))⟩, ?_⟩
        unfold rnU
        rw [if_neg r]
        exact D1
theorem Fx.few {u : ByteArray} {o : Int} {n : Nat} {v : ByteArray} {k : Int} (h : Fx u o (n : Int) v k) (n0 : 0 < n) : v.size ≤ n := by
 rcases h.way with ⟨_, rfl, _⟩ | ⟨c, _⟩ | ⟨c, _⟩ | ⟨N, s1, s2, p2, e, N0, u0, D, w⟩
 · exact Nat.zero_le _
 · omega
 · omega
 · obtain rfl : n = N := by omega
   have q : s1.size ≤ n ∧ s2.size ≤ n := by
    rcases D.way with ⟨c, rfl, rfl, _⟩ | ⟨c, m, k, m0, m1, _, _, rfl, k1, _, K⟩
    · exact ⟨c, c⟩
    · refine ⟨by rw [pre_size (by omega)]; exact m1, ?_⟩
      rcases K with ⟨_, rfl, _⟩ | ⟨k0, _, rfl, _⟩
      · exact N0
      · rw [upS_size k0 (by omega)]; exact k1
   rcases w with ⟨_, _, rfl, _⟩ | ⟨_, rfl, _⟩
   · exact q.2
   · exact q.1
end Go.Proofs.YtjagnfddmlkalaaGreatDoor
