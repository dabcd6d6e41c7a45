/-
  Holds: IvJ SoE SoD QkM QkP QkU SoF QkDa IvL SoK QkW QkY.
-/
import Derived.Test.YtbpfhnndlknloaaGreatDoorRows
import Derived.Laws.Externs
import Derived.WalkKit
import Derived.WalkSpells
import Derived.WalkLawsBesides
import Derived.Lib.Mul64
import Derived.Stop.Asserts
import Derived.RowKitTokens
import Derived.Lib.Strings
import Derived.Lib.BufferWrite
import Derived.Deep.OwnRows
import Derived.Deep.RegionHeld3
import Derived.BigQuiet
import Derived.Lib.ConvBytes
import Derived.Laws.CopyOwn
import Derived.Lib.TrailingZeros
import Derived.Lib.ItoaNum
import Derived.Deep.LoopGhost
import Derived.Deep.AppendLies
import Derived.Deep.DeepCutAuto
import Derived.Test.YtbpfhnndlknloaaGreatDoorKg11
import Derived.Test.YtbpfhnndlknloaaGreatDoorKg22
import Derived.Test.YtbpfhnndlknloaaGreatDoorKg25
import Derived.Test.YtbpfhnndlknloaaGreatDoorKg26
import Derived.Test.YtbpfhnndlknloaaGreatDoorKg27
set_option maxRecDepth 100000
set_option maxHeartbeats 4000000
namespace Go.Proofs.YtbpfhnndlknloaaGreatDoor
open Go.RowKit
def Sf (z : Int) (f T : Nat) (L : Int) (S I : Nat) : Prop :=
 (z = 32 ∧ f = 23 ∧ T = 255 ∧ L = -149 ∧ S = 2147483648 ∧ I = 2139095040) ∨ (z = 64 ∧ f = 52 ∧ T = 2047 ∧ L = -1074 ∧ S = 9223372036854775808 ∧ I = 9218868437227405312)
structure Fn (z : Int) (f T : Nat) (L : Int) (S I b : Nat) : Prop where
 sf : Sf z f T L S I
 lt : b < 2 * S
 fin : mg S b < I
def Bad (b : Nat) (z n : Int) : Prop := (Sn z ∧ n = 5) ∨ (z = 32 ∧ 4294967296 ≤ b ∧ n = 1) ∨ ∃ f T L S I, Sf z f T L S I ∧ b < 2 * S ∧ I ≤ mg S b ∧ n = 1
theorem kinds (b : Nat) (z : Int) (hb : b < 18446744073709551616) : (∃ n, Bad b z n) ∨ ∃ f T L S I, Fn z f T L S I b := by
 by_cases h1 : z = 32
 · by_cases h2 : b < 4294967296
   · by_cases h3 : mg 2147483648 b < 2139095040
     · exact Or.inr ⟨23, 255, -149, 2147483648, 2139095040, Or.inl ⟨h1, rfl, rfl, rfl, rfl, rfl⟩, by omega, h3⟩
     · exact Or.inl ⟨1, Or.inr (Or.inr ⟨23, 255, -149, 2147483648, 2139095040, Or.inl ⟨h1, rfl, rfl, rfl, rfl, rfl⟩, by omega, by omega, rfl⟩)⟩
   · exact Or.inl ⟨1, Or.inr (Or.inl ⟨h1, by omega, rfl⟩)⟩
 · by_cases h2 : z = 64
   · by_cases h3 : mg 9223372036854775808 b < 9218868437227405312
     · exact Or.inr ⟨52, 2047, -1074, 9223372036854775808, 9218868437227405312, Or.inr ⟨h2, rfl, rfl, rfl, rfl, rfl⟩, by omega, h3⟩
     · exact Or.inl ⟨1, Or.inr (Or.inr ⟨52, 2047, -1074, 9223372036854775808, 9218868437227405312, Or.inr ⟨h2, rfl, rfl, rfl, rfl, rfl⟩, by omega, by omega, rfl⟩)⟩
   · exact Or.inl ⟨5, Or.inl ⟨⟨h1, h2⟩, rfl⟩⟩
theorem Bad.not0 {b : Nat} {z n : Int} (h : Bad b z n) : (n == 0) = false := by
 rcases h with ⟨_, rfl⟩ | ⟨_, _, rfl⟩ | ⟨_, _, _, _, _, _, _, _, rfl⟩ <;> rfl
theorem Sf.fs {z : Int} {f T : Nat} {L : Int} {S I : Nat} (h : Sf z f T L S I) : Fs f T L ∧ I = T * 2 ^ f ∧ 2 * S ≤ 18446744073709551616 ∧ 2 ≤ S ∧ S % 2 = 0 ∧ 1 < I ∧ I < S := by
 rcases h with ⟨_, rfl, rfl, rfl, rfl, rfl⟩ | ⟨_, rfl, rfl, rfl, rfl, rfl⟩
 · exact ⟨Or.inl ⟨rfl, rfl, rfl⟩, by decide, by omega, by omega, by omega, by omega, by omega⟩
 · exact ⟨Or.inr ⟨rfl, rfl, rfl⟩, by decide, by omega, by omega, by omega, by omega, by omega⟩
theorem unp_any {z : Int} {f T : Nat} {L : Int} {S I b : Nat} (h : Sf z f T L S I) (hb : b < 2 * S) (w : World) :
 Calls Tryz.prog 13 #[.int .u64 (b : Int), .int .i64 z] w fun e w' => e = .returned (.tuple #[.agg #[.bool (uN S I b), .int .i64 (cl I (mg S b)), .int .u64 ((uM I f (mg S b) : Nat) : Int), .int .i64 (uE I f L (mg S b))], .nilIface]) ∧ Below w.heap.size w w' := by
 rcases h with ⟨rfl, rfl, rfl, rfl, rfl, rfl⟩ | ⟨rfl, rfl, rfl, rfl, rfl, rfl⟩
 · exact unp_32 (by omega) w
 · exact unp_64 (by omega) w
theorem cls_any {z : Int} {f T : Nat} {L : Int} {S I b : Nat} (h : Sf z f T L S I) (hb : b < 2 * S) (w : World) :
 Calls Tryz.prog 78 #[.int .u64 (b : Int), .int .i64 z] w fun e w' => e = .returned (.tuple #[.int .i64 (cl I (mg S b)), .nilIface]) ∧ Below w.heap.size w w' := by
 rcases h with ⟨rfl, rfl, rfl, rfl, rfl, rfl⟩ | ⟨rfl, rfl, rfl, rfl, rfl, rfl⟩
 · exact cls_32 (by omega) w
 · exact cls_64 (by omega) w
theorem xp_one {f : Nat} (hf : 1 ≤ f) (L : Int) : xp f L 1 = L ∧ xp f L 0 = L ∧ mt f 0 = 0 := by
 have p : 2 ≤ 2 ^ f := by
  have := Nat.pow_le_pow_right (n := 2) (by omega) hf
  omega
 have e : 1 / 2 ^ f = 0 := Nat.div_eq_of_lt (by omega)
 refine ⟨?_, ?_, ?_⟩
 · unfold xp; rw [e, if_pos rfl]
 · unfold xp; rw [Nat.zero_div, if_pos rfl]
 · unfold mt; rw [Nat.zero_div, if_pos rfl]
theorem Fs.one {f T : Nat} {L : Int} (h : Fs f T L) : 1 ≤ f := by rcases h with ⟨rfl, _⟩ | ⟨rfl, _⟩ <;> omega
theorem mg_b0 {S b : Nat} (m0 : mg S b ≠ 0) : 1 ≤ b := by
 apply Nat.pos_of_ne_zero
 intro c
 apply m0
 unfold mg
 rw [c, Nat.zero_mod]
theorem Fn.m {z : Int} {f T : Nat} {L : Int} {S I b : Nat} (h : Fn z f T L S I b) : mg S b < T * 2 ^ f := by rw [← h.sf.fs.2.1]; exact h.fin
theorem Fn.prev {z : Int} {f T : Nat} {L : Int} {S I b : Nat} (h : Fn z f T L S I b) (m0 : mg S b ≠ 0) : Fn z f T L S I (b - 1) ∧ mg S (b - 1) + 1 = mg S b := by
 obtain ⟨_, _, _, hS, _, _, hIS⟩ := h.sf.fs
 have lt := h.lt
 have fin := h.fin
 have e : mg S (b - 1) + 1 = mg S b := by
  unfold mg at m0 ⊢
  have dm := Nat.div_add_mod b S
  have ml := Nat.mod_lt b (show 0 < S by omega)
  have : b - 1 = S * (b / S) + (b % S - 1) := by omega
  rw [this, Nat.mul_add_mod, Nat.mod_eq_of_lt (by omega)]
  omega
 exact ⟨⟨h.sf, by omega, by omega⟩, e⟩
theorem prev_is {z : Int} {f T : Nat} {L : Int} {S I b : Nat} (h : Fn z f T L S I b) (m0 : mg S b ≠ 0) (w : World) : Calls Tryz.prog 38 #[.int .u64 (b : Int), .int .i64 z] w fun e w' => e = .returned (.tuple #[.int .u64 ((b - 1 : Nat) : Int), .nilIface]) ∧ Below w.heap.size w w' := by
 have b0 := mg_b0 m0
 have lt := h.lt
 have s2 := h.sf.fs.2.2.1
 have c2 : cl I (mg S b) = 2 := cl_fine m0 h.fin
 have q := prev_ok (b := (b : Int)) (s := z) (c := 2) rfl rfl (by omega) (by omega) (fun W => by have := cls_any h.sf h.lt W; rw [c2] at this; exact this) w
 rw [show (b : Int) - 1 = ((b - 1 : Nat) : Int) by omega] at q
 exact q
theorem Fn.has {z : Int} {f T : Nat} {L : Int} {S I b : Nat} (h : Fn z f T L S I b) : (∃ s p, Dx s p (loF f L (mg S b))) ∧ (∃ t q, Dx t q (hiF f L (mg S b))) ∧ ∃ u o, Dx u o (vlF f L (mg S b)) := by
 have fs := h.sf.fs.1
 have hi : ∀ k, k < T * 2 ^ f → ∃ t q, Dx t q (hiF f L k) := fun k hk => by
  have x := xp_in fs hk
  have m := mt_lt fs k
  exact dx_has (by omega) (by omega) (by omega)
 have x := xp_in fs h.m
 have m := mt_lt fs (mg S b)
 refine ⟨?_, hi _ h.m, dx_has (by omega) (by omega) (by omega)⟩
 by_cases m0 : mg S b = 0
 · rw [m0]; exact ⟨_, _, dx_nought⟩
 · obtain ⟨k, e⟩ : ∃ k, mg S b = k + 1 := ⟨mg S b - 1, by omega⟩
   have := h.m
   rw [e] at this ⊢
   exact hi k (by omega)
theorem Bk.newL (W : World) (l : List Value) (T : TypeId) : Bk (W.alloc (.cells l.toArray T)) W.heap.size l :=
 ⟨by simp, fun i v q => by
  have e := World.cell?_alloc_new (w := W) l.toArray T i
  rw [e]
  simpa using q, fun i => World.frozen?_alloc_new _ _ _ _⟩
def hitB (c : Bool) (lo hi X : Nat) : Bool := inB c (cmpI (X : Int) (lo : Int)) (cmpI (X : Int) (hi : Int))
theorem cmpI_nonneg {a b : Nat} : 0 ≤ cmpI (a : Int) (b : Int) ↔ b ≤ a := by
 unfold cmpI
 split <;> (try split) <;> omega
theorem cmpI_pos {a b : Nat} : 0 < cmpI (a : Int) (b : Int) ↔ b < a := by
 unfold cmpI
 split <;> (try split) <;> omega
theorem cmpI_nonpos {a b : Nat} : cmpI (a : Int) (b : Int) ≤ 0 ↔ a ≤ b := by
 unfold cmpI
 split <;> (try split) <;> omega
theorem hitB_iff {c : Bool} {lo hi X : Nat} : hitB c lo hi X = true ↔ (c = true ∧ lo ≤ X ∧ X ≤ hi) ∨ (c = false ∧ lo < X ∧ X < hi) := by
 unfold hitB inB
 cases c
 · rw [if_neg (by decide), Bool.and_eq_true, decide_eq_true_eq, decide_eq_true_eq, cmpI_pos, cmpI_lt1]
   exact ⟨fun h => Or.inr ⟨rfl, h⟩, fun h => by rcases h with ⟨a, _⟩ | ⟨_, h⟩; cases a; exact h⟩
 · rw [if_pos rfl, Bool.and_eq_true, decide_eq_true_eq, decide_eq_true_eq, cmpI_nonneg, cmpI_nonpos]
   exact ⟨fun h => Or.inl ⟨rfl, h⟩, fun h => by rcases h with ⟨_, h⟩ | ⟨a, _⟩; exact h; cases a⟩
def dnU (X S : Nat) : Nat := X / S * S
def upU (X S : Nat) : Nat := (X + (S - 1)) / S * S
def rnB (X S : Nat) : Bool := decide (S < 2 * (X % S) ∨ (2 * (X % S) = S ∧ X / S % 2 = 1))
def rnU (X S : Nat) : Nat := if rnB X S then upU X S else dnU X S
theorem dn_le (X S : Nat) : dnU X S ≤ X := by unfold dnU; rw [Nat.mul_comm]; exact Nat.mul_div_le X S
theorem dn_mod {X S : Nat} : dnU X S + X % S = X := by unfold dnU; rw [Nat.mul_comm]; exact Nat.div_add_mod X S
theorem up_none {X S : Nat} (S0 : 0 < S) (h : X % S = 0) : upU X S = X ∧ dnU X S = X := ⟨(mod_mul_none S0 h).2, (mod_mul_none S0 h).1⟩
theorem up_is {X S : Nat} (S0 : 0 < S) (h : 0 < X % S) : upU X S = dnU X S + S := by
 unfold upU dnU
 rw [up_some S0 h, Nat.add_mul, Nat.one_mul]
theorem up_ge {X S : Nat} (S0 : 0 < S) : X ≤ upU X S := by
 rcases Nat.eq_zero_or_pos (X % S) with z | z
 · rw [(up_none S0 z).1]; exact Nat.le_refl _
 · rw [up_is S0 z]
   have := @dn_mod X S
   have := Nat.mod_lt X S0
   omega
theorem grid_dn {X S Z : Nat} (S0 : 0 < S) (h : Z % S = 0) (hZ : Z ≤ X) : Z ≤ dnU X S := by
 obtain ⟨k, rfl⟩ : ∃ k, Z = S * k := ⟨Z / S, by have := Nat.div_add_mod Z S; omega⟩
 unfold dnU
 rw [Nat.mul_comm S k]
 exact Nat.mul_le_mul_right S ((Nat.le_div_iff_mul_le S0).2 (by rw [Nat.mul_comm]; exact hZ))
theorem grid_up {X S Z : Nat} (S0 : 0 < S) (h : Z % S = 0) (hZ : X ≤ Z) : upU X S ≤ Z := by
 obtain ⟨k, rfl⟩ : ∃ k, Z = S * k := ⟨Z / S, by have := Nat.div_add_mod Z S; omega⟩
 rcases Nat.eq_zero_or_pos (X % S) with z | z
 · rw [(up_none S0 z).1]; exact hZ
 · rw [up_is S0 z]
   have a := @dn_mod X S
   have b : X / S < k := by
    rw [Nat.div_lt_iff_lt_mul S0]
    rcases Nat.eq_or_lt_of_le hZ with e | e
    · rw [e, Nat.mul_mod_right] at z; omega
    · rw [Nat.mul_comm]; exact e
   have : dnU X S + S = (X / S + 1) * S := by unfold dnU; rw [Nat.add_mul, Nat.one_mul]
   rw [this, Nat.mul_comm S k]
   exact Nat.mul_le_mul_right S b
theorem dn_grid (X S : Nat) : dnU X S % S = 0 := Nat.mul_mod_left _ _
theorem up_grid (X S : Nat) : upU X S % S = 0 := Nat.mul_mod_left _ _
structure Rm (lo X hi : Nat) : Prop where
 below : lo < X
 above : X < hi
 wide : 2 * X ≤ lo + hi
theorem Rm.self {c : Bool} {lo X hi : Nat} (h : Rm lo X hi) : hitB c lo hi X = true := by
 have := h.below
 have := h.above
 rw [hitB_iff]
 cases c
 · exact Or.inr ⟨rfl, by omega, by omega⟩
 · exact Or.inl ⟨rfl, by omega, by omega⟩
theorem hit_dn {c : Bool} {lo X hi Y Z : Nat} (h : Rm lo X hi) (hz : hitB c lo hi Z = true) (h1 : Z ≤ Y) (h2 : Y ≤ X) : hitB c lo hi Y = true := by
 have := h.below
 have := h.above
 rw [hitB_iff] at hz ⊢
 rcases hz with ⟨rfl, _⟩ | ⟨rfl, _⟩
 · exact Or.inl ⟨rfl, by omega, by omega⟩
 · exact Or.inr ⟨rfl, by omega, by omega⟩
theorem hit_up {c : Bool} {lo X hi Y Z : Nat} (h : Rm lo X hi) (hz : hitB c lo hi Z = true) (h1 : X ≤ Y) (h2 : Y ≤ Z) : hitB c lo hi Y = true := by
 have := h.below
 have := h.above
 rw [hitB_iff] at hz ⊢
 rcases hz with ⟨rfl, _⟩ | ⟨rfl, _⟩
 · exact Or.inl ⟨rfl, by omega, by omega⟩
 · exact Or.inr ⟨rfl, by omega, by omega⟩
def anyB (c : Bool) (lo hi X S : Nat) : Bool := hitB c lo hi (dnU X S) || hitB c lo hi (upU X S)
theorem any_of {c : Bool} {lo X hi S Z : Nat} (h : Rm lo X hi) (S0 : 0 < S) (hz : hitB c lo hi Z = true) (g : Z % S = 0) : anyB c lo hi X S = true := by
 unfold anyB
 rw [Bool.or_eq_true]
 rcases Nat.le_total Z X with q | q
 · exact Or.inl (hit_dn h hz (grid_dn S0 g q) (dn_le X S))
 · exact Or.inr (hit_up h hz (up_ge S0) (grid_up S0 g q))
theorem any_ex {c : Bool} {lo X hi S : Nat} (h : anyB c lo hi X S = true) : ∃ Z, hitB c lo hi Z = true ∧ Z % S = 0 := by
 unfold anyB at h
 rw [Bool.or_eq_true] at h
 rcases h with h | h
 · exact ⟨_, h, dn_grid X S⟩
 · exact ⟨_, h, up_grid X S⟩
theorem any_mono {c : Bool} {lo X hi S S' : Nat} (h : Rm lo X hi) (S0 : 0 < S') (d : S' ∣ S) (a : anyB c lo hi X S = true) : anyB c lo hi X S' = true := by
 obtain ⟨Z, z1, z2⟩ := any_ex a
 exact any_of h S0 z1 (Nat.mod_eq_zero_of_dvd (Nat.dvd_trans d (Nat.dvd_of_mod_eq_zero z2)))
theorem near_up {c : Bool} {lo X hi S : Nat} (h : Rm lo X hi) (S0 : 0 < S) (r : rnB X S = true) (d : hitB c lo hi (dnU X S) = true) : hitB c lo hi (upU X S) = true := by
 unfold rnB at r
 rw [decide_eq_true_eq] at r
 have z : 0 < X % S := by omega
 have e1 := up_is S0 z
 have e2 := @dn_mod X S
 have e3 := h.wide
 have e4 := h.below
 have e5 := h.above
 have e6 := @up_ge X S S0
 rw [hitB_iff] at d ⊢
 rw [e1] at e6 ⊢
 generalize dnU X S = y at *
 generalize X % S = t at *
 rcases d with ⟨rfl, _, _⟩ | ⟨rfl, _, _⟩
 · exact Or.inl ⟨rfl, by omega, by omega⟩
 · exact Or.inr ⟨rfl, by omega, by omega⟩
def pickU (c : Bool) (lo hi X S : Nat) : Option Nat := if hitB c lo hi (rnU X S) then some (rnU X S) else if hitB c lo hi (upU X S) then some (upU X S) else none
theorem pick_none {c : Bool} {lo X hi S : Nat} (h : Rm lo X hi) (S0 : 0 < S) : pickU c lo hi X S = none ↔ anyB c lo hi X S = false := by
  unfold pickU anyB
  rw [Bool.or_eq_false_iff]
  constructor
  · intro q
    cases u : hitB c lo hi (upU X S) with
    | true =>
      rw [u, if_pos rfl] at q
      split at q <;> cases q
    | false =>
      refine ⟨?_, rfl⟩
      cases d : hitB c lo hi (dnU X S) with
      | false => rfl
      | true =>
        exfalso
        cases r : rnB X S with
        | true => rw [near_up h S0 r d] at u; cases u
        | false =>
          have e : rnU X S = dnU X S := by unfold rnU; rw [r]; rfl
          rw [e, d, if_pos rfl] at q
          cases q
  · rintro ⟨a, b⟩
    have e : hitB c lo hi (rnU X S) = false := by unfold rnU; split <;> assumption
    rw [e, b]
    rfl
theorem vl_rm {f T : Nat} {L : Int} (h : Fs f T L) {m : Nat} (hm : m < T * 2 ^ f) (h0 : m ≠ 0) : Rm (loF f L m) (vlF f L m) (hiF f L m) := by
 obtain ⟨k, rfl⟩ : ∃ k, m = k + 1 := ⟨m - 1, by omega⟩
 have a := lo_lt h hm h0
 have b := vl_hi h hm
 have e1 := hi_g h hm
 have e2 := lo_g h hm
 have g : gF f L k ≤ gF f L (k + 1) := by
  unfold gF fv
  have x := (xp_mono f L k).1
  exact Nat.mul_le_mul_right _ (Nat.mul_le_mul_left 1 (Nat.pow_le_pow_right (by decide) (by omega)))
 exact ⟨a, b, by omega⟩
theorem first_of (P : Nat → Bool) (a : Nat) : ∀ k, (∃ n, a ≤ n ∧ n < a + k ∧ P n = true ∧ ∀ j, a ≤ j → j < n → P j = false) ∨ ∀ n, a ≤ n → n < a + k → P n = false
  | 0 => Or.inr fun n h1 h2 => by omega
  | k + 1 => by
    rcases first_of P a k with ⟨n, h1, h2, h3, h4⟩ | h
    · exact Or.inl ⟨n, h1, by omega, h3, h4⟩
    · cases e : P (a + k) with
      | true => exact Or.inl ⟨a + k, by omega, by omega, e, fun j h1 h2 => h j h1 (by omega)⟩
      | false =>
        refine Or.inr fun n h1 h2 => ?_
        rcases Nat.lt_or_ge n (a + k) with q | q
        · exact h n h1 q
        · rw [show n = a + k by omega]; exact e
theorem cnt_exact {g D M T F : Nat} (h : g * T = M * D) (T0 : 0 < T) (D0 : 0 < D) : F * g / D = F * M / T ∧ (F * g % D = 0 ↔ F * M % T = 0) := by
 have e : F * g * T = F * M * D := by rw [Nat.mul_assoc, h, Nat.mul_assoc]
 have dm := Nat.div_add_mod (F * M) T
 have ml := Nat.mod_lt (F * M) T0
 generalize F * M / T = w at *
 generalize F * M % T = s at *
 have e2 : F * g * T = (w * D) * T + s * D := by rw [e, ← dm, Nat.add_mul]; congr 1; ac_rfl
 have lo : w * D ≤ F * g := Nat.le_of_mul_le_mul_right (by omega : w * D * T ≤ F * g * T) T0
 have sl : s * D < T * D := Nat.mul_lt_mul_of_pos_right ml D0
 have hi : F * g < (w + 1) * D := by
  refine Nat.lt_of_mul_lt_mul_right (a := T) ?_
  rw [Nat.add_mul, Nat.one_mul, Nat.add_mul, e2, Nat.mul_comm D T]
  omega
 have q : F * g / D = w := Nat.div_eq_of_lt_le lo hi
 refine ⟨q, ?_⟩
 have dq := Nat.div_add_mod (F * g) D
 rw [q, Nat.mul_comm] at dq
 constructor
 · intro z
   rw [z, Nat.add_zero] at dq
   rw [← dq] at e2
   have : s * D = 0 := by omega
   rcases Nat.mul_eq_zero.1 this with c | c <;> omega
 · intro z
   rw [z, Nat.zero_mul, Nat.add_zero] at e2
   have := Nat.eq_of_mul_eq_mul_right T0 e2
   omega
theorem cnt_ends {g D M T F : Nat} (h1 : M * D < g * T) (h2 : g * T < (M + 1) * D) (F0 : 0 < F) : F * M * D < F * g * T ∧ F * g * T < (F * M + F) * D := by
 constructor
 · rw [Nat.mul_assoc, Nat.mul_assoc]; exact Nat.mul_lt_mul_of_pos_left h1 F0
 · rw [Nat.mul_assoc, ← Nat.mul_succ, Nat.mul_assoc]; exact Nat.mul_lt_mul_of_pos_left h2 F0
theorem cnt_same {g D M T F : Nat} (h1 : M * D < g * T) (h2 : g * T < (M + 1) * D) (F0 : 0 < F) (T0 : 0 < T) (e : (F * M + F) / T = F * M / T) : F * g / D = F * M / T ∧ F * g % D ≠ 0 := by
 obtain ⟨a, b⟩ := cnt_ends h1 h2 F0
 have D0 : 0 < D := by
  rcases Nat.eq_zero_or_pos D with z | z
  · rw [z, Nat.mul_zero] at b; omega
  · exact z
 have dm := Nat.div_add_mod (F * M) T
 have dn := Nat.div_add_mod (F * M + F) T
 have ml := Nat.mod_lt (F * M + F) T0
 rw [e] at dn
 generalize F * M / T = w at *
 have lo : w * D < F * g := by
  refine Nat.lt_of_mul_lt_mul_right (a := T) (Nat.lt_of_le_of_lt ?_ a)
  rw [Nat.mul_right_comm, Nat.mul_comm w T]
  exact Nat.mul_le_mul_right D (by omega)
 have hi : F * g < (w + 1) * D := by
  refine Nat.lt_of_mul_lt_mul_right (a := T) (Nat.lt_of_lt_of_le b ?_)
  rw [Nat.mul_right_comm (w + 1) D T, Nat.add_mul w, Nat.one_mul, Nat.mul_comm w T]
  exact Nat.mul_le_mul_right D (by omega)
 have q : F * g / D = w := Nat.div_eq_of_lt_le (Nat.le_of_lt lo) hi
 refine ⟨q, fun z => ?_⟩
 have dq := Nat.div_add_mod (F * g) D
 rw [q, z, Nat.mul_comm] at dq
 omega
theorem cnt_five {g D M T F : Nat} (h1 : M * D < g * T) (h2 : g * T < (M + 1) * D) (F0 : 0 < F) (FT : F ≤ T) (ne : (F * M + F) / T ≠ F * M / T) (dv : F * g % D = 0) : F * g / D = (F * M + F) / T ∧ (F * M + F) / T = F * M / T + 1 := by
 obtain ⟨a, b⟩ := cnt_ends h1 h2 F0
 have T0 : 0 < T := by omega
 have dm := Nat.div_add_mod (F * M) T
 have ml1 := Nat.mod_lt (F * M) T0
 have n1 : (F * M + F) / T = F * M / T + 1 := by
  have up : (F * M + F) / T < F * M / T + 2 := by
   rw [Nat.div_lt_iff_lt_mul T0, Nat.add_mul, Nat.mul_comm (F * M / T) T]
   omega
  have dn : F * M / T ≤ (F * M + F) / T := Nat.div_le_div_right (by omega)
  omega
 have dn := Nat.div_add_mod (F * M + F) T
 have ml := Nat.mod_lt (F * M + F) T0
 have dq := Nat.div_add_mod (F * g) D
 rw [dv, Nat.add_zero] at dq
 refine ⟨?_, n1⟩
 rw [n1] at dn ⊢
 generalize F * M / T = w at *
 generalize F * g / D = c at *
 rw [← dq] at a b
 have D0 : 0 < D := by
  rcases Nat.eq_zero_or_pos D with z | z
  · rw [z, Nat.mul_zero] at b; omega
  · exact z
 have a' : F * M < c * T := by
  refine Nat.lt_of_mul_lt_mul_right (a := D) ?_
  rw [show c * T * D = D * c * T by ac_rfl]; exact a
 have b' : c * T < F * M + F := by
  refine Nat.lt_of_mul_lt_mul_right (a := D) ?_
  rw [show c * T * D = D * c * T by ac_rfl]; exact b
 have c1 : w < c := by
  refine Nat.lt_of_mul_lt_mul_right (a := T) ?_
  rw [Nat.mul_comm w T]; omega
 have c2 : c < w + 2 := by
  refine Nat.lt_of_mul_lt_mul_right (a := T) ?_
  rw [show (w + 2) * T = T * (w + 1) + T by rw [Nat.mul_comm, Nat.mul_add, Nat.mul_add]; omega]; omega
 omega
theorem units_cut {P d : Nat} (hd : d ≤ 128) : P / 2 ^ d = P / 2 ^ 128 * 2 ^ (128 - d) + P % 2 ^ 128 / 2 ^ d ∧ P % 2 ^ 128 / 2 ^ d < 2 ^ (128 - d) ∧ P % 2 ^ 128 % 2 ^ d = P % 2 ^ d := by
 have e : 2 ^ 128 = 2 ^ d * 2 ^ (128 - d) := by rw [← Nat.pow_add]; congr 1; omega
 have p := Nat.two_pow_pos d
 refine ⟨?_, ?_, ?_⟩
 · have dm := Nat.div_add_mod P (2 ^ 128)
   generalize P / 2 ^ 128 = t at *
   generalize P % 2 ^ 128 = r at *
   rw [← dm, e, Nat.mul_assoc, Nat.mul_add_div p, Nat.mul_comm (2 ^ (128 - d)) t]
 · rw [Nat.div_lt_iff_lt_mul p, ← Nat.pow_add, show 128 - d + d = 128 by omega]
   exact Nat.mod_lt _ (Nat.two_pow_pos _)
 · exact Nat.mod_mod_of_dvd _ (Nat.pow_dvd_pow 2 hd)
theorem or_units {a b k : Nat} (h : b < 2 ^ k) : a * 2 ^ k ||| b = a * 2 ^ k + b := by
 rw [Nat.mul_comm, Nat.two_pow_add_eq_or_of_lt h]
def leU (c : Bool) (lo D : Nat) : Nat := if lo % D ≠ 0 ∨ c = false then lo / D + 1 else lo / D
def moU (c : Bool) (hi D : Nat) : Nat := if hi % D = 0 ∧ c = false then hi / D - 1 else hi / D
theorem div_up {a D Z : Nat} (D0 : 0 < D) : a ≤ Z * D ↔ (if a % D = 0 then a / D else a / D + 1) ≤ Z := by
 have dm := Nat.div_add_mod a D
 have ml := Nat.mod_lt a D0
 split
 · rename_i z
   rw [z, Nat.add_zero, Nat.mul_comm] at dm
   constructor
   · intro h
     exact Nat.le_of_mul_le_mul_right (by rw [dm]; exact h) D0
   · intro h
     rw [← dm]
     exact Nat.mul_le_mul_right D h
 · rename_i z
   rw [← Nat.lt_iff_add_one_le, Nat.div_lt_iff_lt_mul D0]
   constructor
   · intro h
     rcases Nat.lt_or_eq_of_le h with q | q
     · exact q
     · exfalso; apply z; rw [q, Nat.mul_mod_left]
   · exact Nat.le_of_lt
theorem div_dn {a D Z : Nat} (D0 : 0 < D) (a0 : 0 < a) : Z * D < a ↔ Z ≤ (if a % D = 0 then a / D - 1 else a / D) := by
 have dm := Nat.div_add_mod a D
 have ml := Nat.mod_lt a D0
 split
 · rename_i z
   rw [z, Nat.add_zero, Nat.mul_comm] at dm
   have q0 : 0 < a / D := by
    rcases Nat.eq_zero_or_pos (a / D) with y | y
    · rw [y, Nat.zero_mul] at dm; omega
    · exact y
   rw [← dm, Nat.mul_lt_mul_right D0, Nat.mul_div_cancel _ D0]
   omega
 · rename_i z
   rw [Nat.le_div_iff_mul_le D0]
   constructor
   · exact Nat.le_of_lt
   · intro h
     rcases Nat.lt_or_eq_of_le h with q | q
     · exact q
     · exfalso; apply z; rw [← q, Nat.mul_mod_left]
theorem hit_units {c : Bool} {lo hi D Z : Nat} (D0 : 0 < D) (h0 : 0 < hi) : hitB c lo hi (Z * D) = true ↔ leU c lo D ≤ Z ∧ Z ≤ moU c hi D := by
 rw [hitB_iff]
 unfold leU moU
 cases c
 · rw [if_pos (Or.inr rfl)]
   have a : lo < Z * D ↔ lo / D + 1 ≤ Z := by rw [← Nat.lt_iff_add_one_le, Nat.div_lt_iff_lt_mul D0]
   have b := div_dn (Z := Z) D0 h0
   have e : (if hi % D = 0 ∧ false = false then hi / D - 1 else hi / D) = if hi % D = 0 then hi / D - 1 else hi / D := by simp
   rw [e, ← b, ← a]
   simp
 · have a := div_up (a := lo) (Z := Z) D0
   have e : (if lo % D ≠ 0 ∨ true = false then lo / D + 1 else lo / D) = if lo % D = 0 then lo / D else lo / D + 1 := by
    by_cases z : lo % D = 0
    · rw [if_neg (by intro q; rcases q with q | q; exact q z; cases q), if_pos z]
    · rw [if_pos (Or.inl z), if_neg z]
   have f : (if hi % D = 0 ∧ true = false then hi / D - 1 else hi / D) = hi / D := if_neg (by intro q; cases q.2)
   rw [e, f, ← a, Nat.le_div_iff_mul_le D0]
   simp
theorem holds_any {c : Bool} {lo X hi D S : Nat} (h : Rm lo X hi) (D0 : 0 < D) (S0 : 0 < S) : decide (leU c lo D ≤ moU c hi D / S * S) = anyB c lo hi X (S * D) := by
  have h0 : 0 < hi := by have := h.below; have := h.above; omega
  have P : 0 < S * D := Nat.mul_pos S0 D0
  cases a : anyB c lo hi X (S * D) with
  | true =>
    obtain ⟨Z, z1, z2⟩ := any_ex a
    obtain ⟨k, rfl⟩ : ∃ k, Z = k * S * D := ⟨Z / (S * D), by have := Nat.div_add_mod Z (S * D); rw [z2, Nat.add_zero] at this; rw [Nat.mul_assoc, Nat.mul_comm]; exact this.symm⟩
    obtain ⟨q1, q2⟩ := (hit_units D0 h0).1 z1
    refine decide_eq_true (Nat.le_trans q1 ?_)
    exact Nat.mul_le_mul_right S ((Nat.le_div_iff_mul_le S0).2 q2)
  | false =>
    refine decide_eq_false fun q => ?_
    have z := (hit_units (c := c) (lo := lo) (hi := hi) (D := D) (Z := moU c hi D / S * S) D0 h0).2 ⟨q, Nat.div_mul_le_self _ _⟩
    rw [any_of h P z (by rw [Nat.mul_assoc, Nat.mul_mod_left])] at a
    cases a
def upQ (v : Nat) (more : Bool) (S : Nat) : Bool := decide (S / 2 < v % S) || (decide (v % S = S / 2) && (more || decide (v / S % 2 = 1)))
def tmQ (v : Nat) (more : Bool) (S : Nat) : Nat := if upQ v more S then v / S + 1 else v / S
def nrQ (v : Nat) (more : Bool) (least S : Nat) : Nat := if tmQ v more S * S < least then tmQ v more S + 1 else tmQ v more S
theorem unit_parts {X D S : Nat} : X / (S * D) = X / D / S ∧ X % (S * D) = X / D % S * D + X % D := by
 rw [Nat.mul_comm S D]
 refine ⟨by rw [Nat.div_div_eq_div_mul], ?_⟩
 rw [Nat.mod_mul, Nat.mul_comm D, Nat.add_comm]
theorem half_units {h D r x : Nat} (hx : x < D) : (h * D < r * D + x ↔ h < r ∨ (r = h ∧ 0 < x)) ∧ (h * D = r * D + x ↔ r = h ∧ x = 0) := by
 rcases Nat.lt_trichotomy r h with q | q | q
 · have a : r * D + D ≤ h * D := by rw [← Nat.succ_mul]; exact Nat.mul_le_mul_right D q
   constructor <;> constructor <;> omega
 · subst q
   constructor <;> constructor <;> omega
 · have a : h * D + D ≤ r * D := by rw [← Nat.succ_mul]; exact Nat.mul_le_mul_right D q
   constructor <;> constructor <;> omega
theorem rn_units {X D S : Nat} (D0 : 0 < D) (ev : S % 2 = 0) : rnB X (S * D) = upQ (X / D) (decide (X % D ≠ 0)) S := by
 obtain ⟨k, rfl⟩ : ∃ k, S = 2 * k := ⟨S / 2, by omega⟩
 obtain ⟨e1, e2⟩ := @unit_parts X D (2 * k)
 have hx := Nat.mod_lt X D0
 unfold rnB upQ
 rw [e1, e2, Nat.mul_div_cancel_left k (by decide)]
 obtain ⟨a, b⟩ := half_units (h := k) (r := X / D % (2 * k)) hx
 generalize X / D % (2 * k) = r at *
 generalize X % D = x at *
 generalize X / D / (2 * k) % 2 = y at *
 have e3 : 2 * k * D = 2 * (k * D) := Nat.mul_assoc _ _ _
 rw [Bool.eq_iff_iff]
 simp only [Bool.or_eq_true, Bool.and_eq_true, decide_eq_true_eq, e3]
 have a' : 2 * (k * D) < 2 * (r * D + x) ↔ k < r ∨ (r = k ∧ 0 < x) := by rw [← a]; omega
 have b' : 2 * (r * D + x) = 2 * (k * D) ↔ r = k ∧ x = 0 := by rw [← b]; omega
 rw [a', b']
 omega
theorem near_pick {c : Bool} {lo X hi D S : Nat} (h : Rm lo X hi) (D0 : 0 < D) (S0 : 0 < S) (ev : S % 2 = 0) (a : anyB c lo hi X (S * D) = true) :
    pickU c lo hi X (S * D) = some (nrQ (X / D) (decide (X % D ≠ 0)) (leU c lo D) S * (S * D)) ∧ hitB c lo hi (nrQ (X / D) (decide (X % D ≠ 0)) (leU c lo D) S * (S * D)) = true := by
  have h0 : 0 < hi := by have := h.below; have := h.above; omega
  have P : 0 < S * D := Nat.mul_pos S0 D0
  have R := @rn_units X D S D0 ev
  have e1 := (@unit_parts X D S).1
  have hu := fun Z => @hit_units c lo hi D Z D0 h0
  have up : ∀ k, hitB c lo hi (k * (S * D)) = true → ¬ k * S < leU c lo D := fun k q => by
    rw [← Nat.mul_assoc] at q
    have := ((hu (k * S)).1 q).1
    omega
  unfold nrQ tmQ
  rw [← R]
  unfold pickU rnU
  have dn : dnU X (S * D) = X / D / S * (S * D) := by unfold dnU; rw [e1]
  cases r : rnB X (S * D) with
  | true =>
    have z : 0 < X % (S * D) := by
      unfold rnB at r
      rw [decide_eq_true_eq] at r
      omega
    have ue : upU X (S * D) = (X / D / S + 1) * (S * D) := by rw [up_is P z, dn, Nat.add_mul, Nat.one_mul]
    have hit : hitB c lo hi (upU X (S * D)) = true := by
      unfold anyB at a
      rw [Bool.or_eq_true] at a
      rcases a with a | a
      · exact near_up h P r a
      · exact a
    simp only [if_true]
    rw [if_pos hit, ue]
    rw [ue] at hit
    rw [if_neg (up _ hit)]
    exact ⟨rfl, hit⟩
  | false =>
    simp only [Bool.false_eq_true, if_false]
    cases q : hitB c lo hi (dnU X (S * D)) with
    | true =>
      rw [if_pos rfl, dn]
      rw [dn] at q
      rw [if_neg (up _ q)]
      exact ⟨rfl, q⟩
    | false =>
      have hit : hitB c lo hi (upU X (S * D)) = true := by
        unfold anyB at a
        rw [q, Bool.false_or] at a
        exact a
      have z : 0 < X % (S * D) := by
        apply Nat.pos_of_ne_zero
        intro z
        have y := (up_none P z).2
        rw [y, h.self] at q
        cases q
      have ue : upU X (S * D) = (X / D / S + 1) * (S * D) := by rw [up_is P z, dn, Nat.add_mul, Nat.one_mul]
      rw [if_neg Bool.false_ne_true, if_pos hit, ue]
      rw [ue] at hit
      have lt : X / D / S * S < leU c lo D := by
        apply Nat.lt_of_not_le
        intro g
        have m : X / D / S * S ≤ moU c hi D := by
          have y := (hu _).1 (by rw [← Nat.mul_assoc] at hit; exact hit)
          have : X / D / S * S ≤ (X / D / S + 1) * S := Nat.mul_le_mul_right S (Nat.le_succ _)
          omega
        have y := (hu _).2 ⟨g, m⟩
        rw [Nat.mul_assoc, ← dn, q] at y
        cases y
      rw [if_pos lt]
      exact ⟨rfl, hit⟩
end Go.Proofs.YtbpfhnndlknloaaGreatDoor
namespace Go.Proofs.YtbpfhnndlknloaaGreatDoor
def x2 (X : Nat) : Int := ((X / 340282366920938463463374607431768211456 : Nat) : Int)
def x1 (X : Nat) : Int := ((X / 18446744073709551616 % 18446744073709551616 : Nat) : Int)
def x0 (X : Nat) : Int := ((X % 18446744073709551616 : Nat) : Int)
theorem x1_word (X : Nat) : Word (x1 X) := by unfold Word x1; omega
theorem x0_word (X : Nat) : Word (x0 X) := by unfold Word x0; omega
theorem mul_words (M b : Nat) : m3Top (hiW M) (loW M) (b : Int) = x2 (M * b) ∧ m3Mid (hiW M) (loW M) (b : Int) = x1 (M * b) ∧ mLo (loW M) (b : Int) = x0 (M * b) := by
 unfold m3Top m3Mid mHi mLo a3C a3Lo hiW loW x2 x1 x0
 have e0 : M * b = M / 18446744073709551616 * b * 18446744073709551616 + M % 18446744073709551616 * b := by
  rw [Nat.mul_right_comm, ← Nat.add_mul, Nat.div_add_mod']
 have e1 : ((M / 18446744073709551616 : Nat) : Int) * (b : Int) = ((M / 18446744073709551616 * b : Nat) : Int) := (Int.natCast_mul _ _).symm
 have e2 : ((M % 18446744073709551616 : Nat) : Int) * (b : Int) = ((M % 18446744073709551616 * b : Nat) : Int) := (Int.natCast_mul _ _).symm
 rw [e1, e2, e0, show (340282366920938463463374607431768211456 : Nat) = 18446744073709551616 * 18446744073709551616 from rfl, ← Nat.div_div_eq_div_mul]
 generalize M / 18446744073709551616 * b = p
 generalize M % 18446744073709551616 * b = q
 refine ⟨?_, ?_, ?_⟩ <;> omega
theorem sum_words {X A : Nat} (hA : A < 2 ^ 128) (h : X + A < 2 ^ 192) : sHi (x1 X) (x0 X) (hiW A) (loW A) = x1 (X + A) ∧ sLo (x0 X) (loW A) = x0 (X + A) ∧
 (sOv (x1 X) (x0 X) (hiW A) (loW A) = false → x2 X = x2 (X + A)) ∧ (sOv (x1 X) (x0 X) (hiW A) (loW A) = true → x2 X + 1 = x2 (X + A) ∧ x2 X + 1 < 18446744073709551616) := by
 rw [show 2 ^ 128 = 340282366920938463463374607431768211456 from rfl] at hA
 rw [show 2 ^ 192 = 6277101735386680763835789423207666416102355444464034512896 from rfl] at h
 unfold sHi sLo sOv a3C a3Lo hiW loW x2 x1 x0
 rw [show (340282366920938463463374607431768211456 : Nat) = 18446744073709551616 * 18446744073709551616 from rfl, ← Nat.div_div_eq_div_mul, ← Nat.div_div_eq_div_mul]
 obtain ⟨c, hc⟩ : ∃ c, c = X % 18446744073709551616 := ⟨_, rfl⟩
 obtain ⟨U, hU⟩ : ∃ U, U = X / 18446744073709551616 := ⟨_, rfl⟩
 obtain ⟨d, hd⟩ : ∃ d, d = A % 18446744073709551616 := ⟨_, rfl⟩
 obtain ⟨D, hD⟩ : ∃ D, D = A / 18446744073709551616 := ⟨_, rfl⟩
 have e1 : (X + A) % 18446744073709551616 = (c + d) % 18446744073709551616 := by omega
 have e2 : (X + A) / 18446744073709551616 = U + D + (c + d) / 18446744073709551616 := by omega
 have e3 : U + D + (c + d) / 18446744073709551616 < 340282366920938463463374607431768211456 := by omega
 have l1 : c < 18446744073709551616 := by omega
 have l2 : d < 18446744073709551616 := by omega
 have l3 : D < 18446744073709551616 := by omega
 rw [e1, e2, ← hc, ← hU, ← hd, ← hD]
 clear e1 e2 hc hU hd hD h hA
 refine ⟨by omega, by omega, ?_, ?_⟩
 · intro z
   rw [bne_eq_false_iff_eq] at z
   omega
 · intro z
   rw [bne_iff_ne] at z
   omega
theorem units_word {P d : Nat} (h1 : 120 ≤ d) (h2 : d ≤ 123) (hP : P / 2 ^ d < 18446744073709551616) : bits BinOp.or IntKind.u64 (IntKind.u64.wrap (x2 P * 2 ^ (128 - (d : Int)).toNat)) (loW (P % 2 ^ 128 / 2 ^ d)) = ((P / 2 ^ d : Nat) : Int) := by
 obtain ⟨e1, e2, _⟩ := @units_cut P d (by omega)
 obtain ⟨k, hk⟩ : ∃ k, 128 - d = k := ⟨_, rfl⟩
 rw [hk] at e1 e2
 rw [show (128 - (d : Int)).toNat = k by omega]
 have p8 : 2 ^ k ≤ 2 ^ 8 := Nat.pow_le_pow_right (by decide) (by omega)
 unfold x2 loW
 rw [show (340282366920938463463374607431768211456 : Nat) = 2 ^ 128 from rfl]
 generalize P / 2 ^ 128 = t at *
 generalize P % 2 ^ 128 / 2 ^ d = b at *
 rw [e1] at hP ⊢
 have c1 : ((t : Nat) : Int) * 2 ^ k = ((t * 2 ^ k : Nat) : Int) := by rw [Int.natCast_mul, Int.natCast_pow]; rfl
 have c2 : IntKind.u64.wrap ((t * 2 ^ k : Nat) : Int) = ((t * 2 ^ k : Nat) : Int) := by rw [IntKind.wrap_u64]; omega
 rw [c1, c2, Nat.mod_eq_of_lt (show b < 18446744073709551616 by omega), bits_or_u64_nat _ _ (by omega) (by omega), or_units e2]
theorem low_words (P : Nat) : val (x1 P) (x0 P) = P % 2 ^ 128 ∧ Word (x1 P) ∧ Word (x0 P) := by
 refine ⟨?_, x1_word P, x0_word P⟩
 unfold val x1 x0
 rw [show (2 : Nat) ^ 128 = 18446744073709551616 * 18446744073709551616 from rfl, Nat.mod_mul]
 omega
end Go.Proofs.YtbpfhnndlknloaaGreatDoor
namespace Go.Proofs.YtbpfhnndlknloaaGreatDoor
open Go.RowKit
theorem Bk.set1 {W : World} {K : Nat} {l : List Value} (h : Bk W K l) {g : Nat} (hne : ¬ K = g) (i : Nat) (v : Value) : Bk (W.setCell ⟨g, i, none⟩ v) K l :=
 ⟨by rw [World.size_setCell]; exact h.lt, fun j x q => (World.cell?_setCell_other W ⟨g, i, none⟩ ⟨K, j, none⟩ v (by intro z; injection z with z _ _; exact hne z.symm)).trans (h.cell j x q), fun j => by rw [World.frozen?_setCell]; exact h.fz j⟩
theorem Bk.fill2 {W : World} {K : Nat} {x y : Value} (h : Bk W K [x, y]) (a b : Value) : Bk ((W.setCell ⟨K, 0, none⟩ a).setCell ⟨K, 1, none⟩ b) K [a, b] := by
 have c0 := h.cell 0 _ rfl
 have c1 := h.cell 1 _ rfl
 have n01 : (⟨K, 1, none⟩ : Addr) ≠ ⟨K, 0, none⟩ := by intro q; injection q with _ q _; omega
 refine ⟨by rw [World.size_setCell, World.size_setCell]; exact h.lt, fun i v q => ?_, fun i => by rw [World.frozen?_setCell, World.frozen?_setCell]; exact h.fz i⟩
 match i, q with
 | 0, q => cases q; simp [World.cell?_setCell_same, World.cell?_setCell_other, c0]
 | 1, q => cases q; simp [World.cell?_setCell_same, World.cell?_setCell_other, c1]
 | n + 2, q => simp at q
theorem hm_ok {a m v s : Nat} {e r : Bool} (s0 : 0 < s) (hr : decide ((a : Int) ≤ IntKind.u64.wrap (IntKind.u64.wrap ((m : Int) / (s : Int)) * (s : Int))) = r) (w : World) :
 Calls Tryz.prog 76 #[.agg #[.int .u64 (a : Int), .int .u64 (m : Int), .int .u64 (v : Int), .bool e], .int .u64 (s : Int)] w fun x w' => x = .returned (.bool r) ∧ Below w.heap.size w w' := by
 have F0 : Hid (Bk (w.alloc (.cells #[.int .u64 (a : Int), .int .u64 (m : Int), .int .u64 (v : Int), .bool e] 84)) (w.heap.size) [.int .u64 (a : Int), .int .u64 (m : Int), .int .u64 (v : Int), .bool e] ∧ Below w.heap.size w (w.alloc (.cells #[.int .u64 (a : Int), .int .u64 (m : Int), .int .u64 (v : Int), .bool e] 84))) := ⟨Bk.newL w [.int .u64 (a : Int), .int .u64 (m : Int), .int .u64 (v : Int), .bool e] 84, ((Below.refl w.heap.size w)).alloc (Nat.le_refl _) _⟩
 go_enter Tryz.func76, Tryz.ntmps76
 go_upto_region 1 with fail
 generalize (w.alloc (.cells #[.int .u64 (a : Int), .int .u64 (m : Int), .int .u64 (v : Int), .bool e] 84)) = w1 at *
 have l1_0 := F0.out.1.lt
 have a1_0_0 := F0.out.1.cell 0 _ rfl
 have f1_0_0 := F0.out.1.fz 0
 have a1_0_1 := F0.out.1.cell 1 _ rfl
 have f1_0_1 := F0.out.1.fz 1
 have a1_0_2 := F0.out.1.cell 2 _ rfl
 have f1_0_2 := F0.out.1.fz 2
 have a1_0_3 := F0.out.1.cell 3 _ rfl
 have f1_0_3 := F0.out.1.fz 3
 go_region
 all_goals go_wp2
 all_goals go_ret
 all_goals exact ⟨by rw [← hr]; rfl, (F0.out.2).drew⟩
theorem hm_is {a m v s : Nat} {e : Bool} (s0 : 0 < s) (hm : m < 18446744073709551616) (w : World) :
 Calls Tryz.prog 76 #[.agg #[.int .u64 (a : Int), .int .u64 (m : Int), .int .u64 (v : Int), .bool e], .int .u64 (s : Int)] w fun x w' => x = .returned (.bool (decide (a ≤ m / s * s))) ∧ Below w.heap.size w w' := by
 refine hm_ok s0 ?_ w
 have e1 : IntKind.u64.wrap ((m : Int) / (s : Int)) = ((m / s : Nat) : Int) := by
  have := Nat.div_le_self m s
  rw [IntKind.wrap_u64, ← Int.natCast_ediv]
  generalize m / s = q at *
  omega
 have e2 : IntKind.u64.wrap (((m / s : Nat) : Int) * (s : Int)) = ((m / s * s : Nat) : Int) := by
  have := Nat.div_mul_le_self m s
  rw [IntKind.wrap_u64, ← Int.natCast_mul]
  generalize m / s * s = q at *
  omega
 rw [e1, e2]
 exact decide_eq_decide.2 Int.ofNat_le
abbrev Dp := ByteArray × Int
def hdB (c : Bool) (s : ByteArray) (p : Int) (t : ByteArray) (q : Int) (d : Dp) : Bool := inB c (lowF d.1 d.2 s p) (lowF d.1 d.2 t q)
theorem rc21_err {b z n : Int} (q1 : (n == 0) = false) (HC : ∀ W, Calls Tryz.prog 17 #[.int .u64 b, .int .i64 z] W fun e w' => e = .returned (.int .i64 n) ∧ Below W.heap.size W w') (w : World) :
 Calls Tryz.prog 6 #[.int .u64 b, .int .i64 z] w fun x w' => x = .returned (.int .i64 n) ∧ Below w.heap.size w w' := by
 have F0 : Hid (Below w.heap.size w w) := Below.refl _ _
 go_enter Tryz.func6, Tryz.ntmps6
 go_wp2_with fail
 all_goals first | (exfalso; omega) | skip
 refine (HC _).mono ?_
 rintro o1 w1 ⟨rfl, bb⟩
 have F1 : Hid (Below w.heap.size w w1) := (F0.out).trans (bb.mono (F0.out).size)
 clear F0
 clear bb
 go_wp2
 go_ret
 exact ⟨rfl, F1.out⟩
theorem rc21_not {b z k : Int} (q1 : (k != 2) = true) (HC : ∀ W, Calls Tryz.prog 17 #[.int .u64 b, .int .i64 z] W fun e w' => e = .returned (.int .i64 0) ∧ Below W.heap.size W w') (HO : ∀ W, Calls Tryz.prog 18 #[.int .u64 b, .int .i64 z] W fun e w' => e = .returned (.int .i64 k) ∧ Below W.heap.size W w') (w : World) :
 Calls Tryz.prog 6 #[.int .u64 b, .int .i64 z] w fun x w' => x = .returned (.int .i64 1) ∧ Below w.heap.size w w' := by
 have F0 : Hid (Below w.heap.size w w) := Below.refl _ _
 go_enter Tryz.func6, Tryz.ntmps6
 go_wp2_with fail
 all_goals first | (exfalso; omega) | skip
 refine (HC _).mono ?_
 rintro o1 w1 ⟨rfl, bb⟩
 have F1 : Hid (Below w.heap.size w w1) := (F0.out).trans (bb.mono (F0.out).size)
 clear F0
 clear bb
 go_wp2_with fail
 all_goals first | (exfalso; omega) | skip
 refine (HO _).mono ?_
 rintro o2 w2 ⟨rfl, bb⟩
 have F2 : Hid (Below w.heap.size w w2) := (F1.out).trans (bb.mono (F1.out).size)
 clear F1
 clear bb
 go_wp2
 go_ret
 exact ⟨rfl, F2.out⟩
theorem rc21_ok {b z k : Int} (q1 : (k != 2) = false) (HC : ∀ W, Calls Tryz.prog 17 #[.int .u64 b, .int .i64 z] W fun e w' => e = .returned (.int .i64 0) ∧ Below W.heap.size W w') (HO : ∀ W, Calls Tryz.prog 18 #[.int .u64 b, .int .i64 z] W fun e w' => e = .returned (.int .i64 k) ∧ Below W.heap.size W w') (w : World) :
 Calls Tryz.prog 6 #[.int .u64 b, .int .i64 z] w fun x w' => x = .returned (.int .i64 0) ∧ Below w.heap.size w w' := by
 have F0 : Hid (Below w.heap.size w w) := Below.refl _ _
 go_enter Tryz.func6, Tryz.ntmps6
 go_wp2_with fail
 all_goals first | (exfalso; omega) | skip
 refine (HC _).mono ?_
 rintro o1 w1 ⟨rfl, bb⟩
 have F1 : Hid (Below w.heap.size w w1) := (F0.out).trans (bb.mono (F0.out).size)
 clear F0
 clear bb
 go_wp2_with fail
 all_goals first | (exfalso; omega) | skip
 refine (HO _).mono ?_
 rintro o2 w2 ⟨rfl, bb⟩
 have F2 : Hid (Below w.heap.size w w2) := (F1.out).trans (bb.mono (F1.out).size)
 clear F1
 clear bb
 go_wp2
 go_ret
 exact ⟨rfl, F2.out⟩
theorem and_oneQ {a : Nat} (h : a < 18446744073709551616) : bits BinOp.and IntKind.u64 (a : Int) 1 = ((a % 2 : Nat) : Int) := by
 have e := u64_and_nat a 1 h (by decide)
 rw [show ((1 : Nat) : Int) = 1 from rfl] at e
 rw [e, nat_mask1]
theorem wh_far {b z e0 : Int} {m : Nat} (q1 : 64 ≤ e0) (HP : ∀ W, Calls Tryz.prog 20 #[.int .u64 b, .int .i64 z] W fun e w' => e = .returned (.tuple #[.int .u64 (m : Int), .int .i64 e0]) ∧ Below W.heap.size W w') (w : World) :
 Calls Tryz.prog 9 #[.int .u64 b, .int .i64 z, .int .u64 16777216] w fun x w' => x = .returned (.bool false) ∧ Below w.heap.size w w' := by
 have F0 : Hid (Below w.heap.size w w) := Below.refl _ _
 go_enter Tryz.func9, Tryz.ntmps9
 go_wp2_with fail
 all_goals first | (exfalso; omega) | skip
 refine (HP _).mono ?_
 rintro o1 w1 ⟨rfl, bb⟩
 have F1 : Hid (Below w.heap.size w w1) := (F0.out).trans (bb.mono (F0.out).size)
 clear F0
 clear bb
 go_wp2
 go_loopw [7, 8] (fun mv ev wr => mv = .int .u64 (m : Int) ∧ ev = .int .i64 e0 ∧ Hid (Below w.heap.size w wr)) (fun _ _ _ => 0)
 case atStart => exact ⟨rfl, rfl, F1.out⟩
 case round =>
  obtain ⟨rfl, rfl, HB⟩ := hrel
  have n0 : ¬ e0 < 0 := by omega
  have n1 : 0 ≤ e0 := by omega
  go_wp2
  go_ret
  exact ⟨rfl, HB.out⟩
theorem wh_big {b z e0 : Int} {m : Nat} (q1 : 0 ≤ e0) (q2 : e0 < 64) (q3 : ¬ (m : Int) ≤ 16777215 / 2 ^ e0.toNat) (HP : ∀ W, Calls Tryz.prog 20 #[.int .u64 b, .int .i64 z] W fun e w' => e = .returned (.tuple #[.int .u64 (m : Int), .int .i64 e0]) ∧ Below W.heap.size W w') (w : World) :
 Calls Tryz.prog 9 #[.int .u64 b, .int .i64 z, .int .u64 16777216] w fun x w' => x = .returned (.bool false) ∧ Below w.heap.size w w' := by
 have F0 : Hid (Below w.heap.size w w) := Below.refl _ _
 go_enter Tryz.func9, Tryz.ntmps9
 go_wp2_with fail
 all_goals first | (exfalso; omega) | skip
 refine (HP _).mono ?_
 rintro o1 w1 ⟨rfl, bb⟩
 have F1 : Hid (Below w.heap.size w w1) := (F0.out).trans (bb.mono (F0.out).size)
 clear F0
 clear bb
 go_wp2
 go_loopw [7, 8] (fun mv ev wr => mv = .int .u64 (m : Int) ∧ ev = .int .i64 e0 ∧ Hid (Below w.heap.size w wr)) (fun _ _ _ => 0)
 case atStart => exact ⟨rfl, rfl, F1.out⟩
 case round =>
  obtain ⟨rfl, rfl, HB⟩ := hrel
  have n0 : ¬ e0 < 0 := by omega
  have n1 : 0 ≤ e0 := by omega
  go_wp2
  go_ret
  exact ⟨by first | rfl | (show Ending.returned (Value.bool (decide _)) = _; rw [decide_eq_false (by omega)]), HB.out⟩
theorem wh_small {b z e0 : Int} {m : Nat} (q1 : e0 < -176) (q2 : -5000 ≤ e0) (m0 : 0 < m) (m53 : m < 9007199254740992) (HP : ∀ W, Calls Tryz.prog 20 #[.int .u64 b, .int .i64 z] W fun e w' => e = .returned (.tuple #[.int .u64 (m : Int), .int .i64 e0]) ∧ Below W.heap.size W w') (w : World) :
 Calls Tryz.prog 9 #[.int .u64 b, .int .i64 z, .int .u64 16777216] w fun x w' => x = .returned (.bool false) ∧ Below w.heap.size w w' := by
 have F0 : Hid (Below w.heap.size w w) := Below.refl _ _
 go_enter Tryz.func9, Tryz.ntmps9
 go_wp2_with fail
 all_goals first | (exfalso; omega) | skip
 refine (HP _).mono ?_
 rintro o1 w1 ⟨rfl, bb⟩
 have F1 : Hid (Below w.heap.size w w1) := (F0.out).trans (bb.mono (F0.out).size)
 clear F0
 clear bb
 go_wp2
 go_loopw [7, 8] (fun mv ev wr => ∃ j y : Nat, mv = .int .u64 (y : Int) ∧ ev = .int .i64 (e0 + (j : Int)) ∧ 0 < y ∧ y < 9007199254740992 ∧ j ≤ 60 ∧ Hid (y * 2 ^ j = m) ∧ Hid (Below w.heap.size w wr)) (fun mv _ _ => (intOf mv).toNat)
 case atStart => exact ⟨0, m, rfl, by go_num, m0, m53, by omega, Nat.mul_one m, F1.out⟩
 case round =>
  obtain ⟨j, y, rfl, rfl, y0, y53, j60, HY, HB⟩ := hrel
  have n0 : e0 + (j : Int) < 0 := by omega
  have n1 : ¬ 0 ≤ e0 + (j : Int) := by omega
  have yp : (0 : Int) < (y : Int) := by omega
  have ye : bits BinOp.and IntKind.u64 (y : Int) 1 = ((y % 2 : Nat) : Int) := and_oneQ (by omega)
  by_cases c : y % 2 = 0
  · have yz : (((y % 2 : Nat) : Int) == 0) = true := by rw [c]; rfl
    have HJ : Hid (j + 1 ≤ 60 ∧ y / 2 * 2 ^ (j + 1) = m) := by
     have e1 : y / 2 * 2 ^ (j + 1) = m := by rw [← HY.out, Nat.pow_succ, Nat.mul_comm (2 ^ j) 2, ← Nat.mul_assoc]; congr 1; omega
     refine ⟨?_, e1⟩
     apply Nat.le_of_not_lt
     intro g
     have p : 2 ^ 60 ≤ 2 ^ (j + 1) := Nat.pow_le_pow_right (by decide) (by omega)
     have q : 2 ^ (j + 1) ≤ y / 2 * 2 ^ (j + 1) := Nat.le_mul_of_pos_left _ (by omega)
     rw [e1] at q
     have : (9007199254740992 : Nat) < 2 ^ 60 := by decide
     omega
    go_wp2
    go_roundw
    case rel => exact ⟨j + 1, y / 2, by first | rfl | go_num, by first | rfl | go_num, by omega, by omega, HJ.out.1, HJ.out.2, HB⟩
    case measure => simp [intOf]; omega
  · have yz : (((y % 2 : Nat) : Int) == 0) = false := beq_eq_false_iff_ne.mpr (by omega)
    go_wp2
    go_ret
    exact ⟨rfl, HB.out⟩
theorem rs_tt {b z : Int} {u a1 c1 r1 : ByteArray} {o a2 c2 r2 : Int} {M : Nat} {dn up : Nat → Dp} (m1 : 1 ≤ M) (m17 : M ≤ 17) (HE : ∀ W, Calls Tryz.prog 21 #[.int .u64 b, .int .i64 z] W fun e w' => e = .returned (.tuple #[.agg #[.string u, .int .i64 o, .bool false], .int .i64 0]) ∧ Below W.heap.size W w') (HN : ∀ j : Nat, 1 ≤ j → j < M → ∀ W, Calls Tryz.prog 22 #[.int .u64 b, .int .i64 z, .int .i64 (j : Int)] W fun e w' => e = .returned (.tuple #[.agg #[.string (dn j).1, .int .i64 (dn j).2, .bool false], .bool false, .agg #[.string (up j).1, .int .i64 (up j).2, .bool false], .bool false]) ∧ Below W.heap.size W w') (HK : ∀ W, Calls Tryz.prog 22 #[.int .u64 b, .int .i64 z, .int .i64 (M : Int)] W fun e w' => e = .returned (.tuple #[.agg #[.string a1, .int .i64 a2, .bool false], .bool true, .agg #[.string c1, .int .i64 c2, .bool false], .bool true]) ∧ Below W.heap.size W w') (HR : ∀ W, Calls Tryz.prog 23 #[.agg #[.string u, .int .i64 o, .bool false], .int .i64 (M : Int)] W fun e w' => e = .returned (.tuple #[.agg #[.string r1, .int .i64 r2, .bool false], .int .i64 0]) ∧ Below W.heap.size W w') (w : World) :
 Calls Tryz.prog 10 #[.int .u64 b, .int .i64 z] w fun x w' => x = .returned (.agg #[.string r1, .int .i64 r2, .bool false]) ∧ Below w.heap.size w w' := by
 have F0 : Hid (Bk (w.alloc (.cells #[.string ⟨#[]⟩, .int .i64 0, .bool false] 24)) (w.heap.size) [.string ⟨#[]⟩, .int .i64 0, .bool false] ∧ Below w.heap.size w (w.alloc (.cells #[.string ⟨#[]⟩, .int .i64 0, .bool false] 24))) := ⟨Bk.newL w [.string ⟨#[]⟩, .int .i64 0, .bool false] 24, ((Below.refl w.heap.size w)).alloc (Nat.le_refl _) _⟩
 go_enter Tryz.func10, Tryz.ntmps10
 go_upto_region 1 with fail
 generalize (w.alloc (.cells #[.string ⟨#[]⟩, .int .i64 0, .bool false] 24)) = w1 at *
 go_wp2_with fail
 all_goals first | (exfalso; omega) | skip
 refine (HE _).mono ?_
 rintro o2 w2 ⟨rfl, bb⟩
 have F1 : Hid (Bk w2 (w.heap.size) [.string ⟨#[]⟩, .int .i64 0, .bool false] ∧ Below w.heap.size w w2) := ⟨(F0.out.1).step bb, (F0.out.2).trans (bb.mono (F0.out.2).size)⟩
 clear F0
 clear bb
 have lt0_1 := (F1.out.1).lt
 have le1 := (F1.out.2).size
 have F2 : Hid (Bk (w2.alloc (.cells #[.string u, .int .i64 o, .bool false] 24)) (w.heap.size) [.string ⟨#[]⟩, .int .i64 0, .bool false] ∧ Bk (w2.alloc (.cells #[.string u, .int .i64 o, .bool false] 24)) (w2.heap.size) [.string u, .int .i64 o, .bool false] ∧ Below w.heap.size w (w2.alloc (.cells #[.string u, .int .i64 o, .bool false] 24))) := ⟨(F1.out.1).step ((Below.refl _ _).alloc (Nat.le_refl _) _), Bk.newL w2 [.string u, .int .i64 o, .bool false] 24, (F1.out.2).alloc ((F1.out.2).size) _⟩
 clear F1
 go_upto_region 2 with fail
 generalize (w2.alloc (.cells #[.string u, .int .i64 o, .bool false] 24)) = w3 at *
 have l1_0 := F2.out.1.lt
 have a1_0_0 := F2.out.1.cell 0 _ rfl
 have f1_0_0 := F2.out.1.fz 0
 have a1_0_1 := F2.out.1.cell 1 _ rfl
 have f1_0_1 := F2.out.1.fz 1
 have a1_0_2 := F2.out.1.cell 2 _ rfl
 have f1_0_2 := F2.out.1.fz 2
 have l1_1 := F2.out.2.1.lt
 have a1_1_0 := F2.out.2.1.cell 0 _ rfl
 have f1_1_0 := F2.out.2.1.fz 0
 have a1_1_1 := F2.out.2.1.cell 1 _ rfl
 have f1_1_1 := F2.out.2.1.fz 1
 have a1_1_2 := F2.out.2.1.cell 2 _ rfl
 have f1_1_2 := F2.out.2.1.fz 2
 have ne1_0_1 : ¬ w.heap.size = w2.heap.size := by omega
 have ne1_1_0 : ¬ w2.heap.size = w.heap.size := by omega
 go_wp2
 have IB : Hid (Bk w3 (w.heap.size) [.string ⟨#[]⟩, .int .i64 0, .bool false] ∧ Bk w3 (w2.heap.size) [.string u, .int .i64 o, .bool false] ∧ Below w.heap.size w w3) := F2.out
 clear l1_0 a1_0_0 f1_0_0 a1_0_1 f1_0_1 a1_0_2 f1_0_2 l1_1 a1_1_0 f1_1_0 a1_1_1 f1_1_1 a1_1_2 f1_1_2
 go_loopw [7] (fun nv wr => ∃ j : Nat, nv = .int .i64 (j : Int) ∧ 1 ≤ j ∧ j ≤ M ∧ Hid (Bk wr (w.heap.size) [.string ⟨#[]⟩, .int .i64 0, .bool false] ∧ Bk wr (w2.heap.size) [.string u, .int .i64 o, .bool false] ∧ Below w.heap.size w wr)) (fun nv _ => 20 - (intOf nv).toNat)
 case atStart => exact ⟨1, rfl, by omega, m1, IB⟩
 case round =>
  obtain ⟨j, rfl, j1, jN, HB⟩ := hrel
  clear IB F2
  have F50 := HB
  clear HB
  have j17 : j ≤ 17 := by omega
  by_cases c : j < M
  · have HJ := HN j j1 c
    have l21_0 := F50.out.1.lt
    have a21_0_0 := F50.out.1.cell 0 _ rfl
    have f21_0_0 := F50.out.1.fz 0
    have a21_0_1 := F50.out.1.cell 1 _ rfl
    have f21_0_1 := F50.out.1.fz 1
    have a21_0_2 := F50.out.1.cell 2 _ rfl
    have f21_0_2 := F50.out.1.fz 2
    have l21_1 := F50.out.2.1.lt
    have a21_1_0 := F50.out.2.1.cell 0 _ rfl
    have f21_1_0 := F50.out.2.1.fz 0
    have a21_1_1 := F50.out.2.1.cell 1 _ rfl
    have f21_1_1 := F50.out.2.1.fz 1
    have a21_1_2 := F50.out.2.1.cell 2 _ rfl
    have f21_1_2 := F50.out.2.1.fz 2
    have ne21_0_1 : ¬ w.heap.size = w2.heap.size := by omega
    have ne21_1_0 : ¬ w2.heap.size = w.heap.size := by omega
    go_wp2_with fail
    refine (HJ _).mono ?_
    rintro o21 w21 ⟨rfl, bb⟩
    have F51 : Hid (Bk w21 (w.heap.size) [.string ⟨#[]⟩, .int .i64 0, .bool false] ∧ Bk w21 (w2.heap.size) [.string u, .int .i64 o, .bool false] ∧ Below w.heap.size w w21) := ⟨(F50.out.1).step bb, (F50.out.2.1).step bb, (F50.out.2.2).trans (bb.mono (F50.out.2.2).size)⟩
    clear F50
    clear bb
    clear l21_0 a21_0_0 f21_0_0 a21_0_1 f21_0_1 a21_0_2 f21_0_2 l21_1 a21_1_0 f21_1_0 a21_1_1 f21_1_1 a21_1_2 f21_1_2
    have lt0_2 := (F51.out.1).lt
    have lt1_2 := (F51.out.2.1).lt
    have le2 := (F51.out.2.2).size
    have F52 : Hid (Bk ((w21.alloc (.cells #[.string (dn j).1, .int .i64 (dn j).2, .bool false] 24)).alloc (.cells #[.string (up j).1, .int .i64 (up j).2, .bool false] 24)) (w.heap.size) [.string ⟨#[]⟩, .int .i64 0, .bool false] ∧ Bk ((w21.alloc (.cells #[.string (dn j).1, .int .i64 (dn j).2, .bool false] 24)).alloc (.cells #[.string (up j).1, .int .i64 (up j).2, .bool false] 24)) (w2.heap.size) [.string u, .int .i64 o, .bool false] ∧ Bk ((w21.alloc (.cells #[.string (dn j).1, .int .i64 (dn j).2, .bool false] 24)).alloc (.cells #[.string (up j).1, .int .i64 (up j).2, .bool false] 24)) (w21.heap.size) [.string (dn j).1, .int .i64 (dn j).2, .bool false] ∧ Bk ((w21.alloc (.cells #[.string (dn j).1, .int .i64 (dn j).2, .bool false] 24)).alloc (.cells #[.string (up j).1, .int .i64 (up j).2, .bool false] 24)) (w21.heap.size + 1) [.string (up j).1, .int .i64 (up j).2, .bool false] ∧ Below w.heap.size w ((w21.alloc (.cells #[.string (dn j).1, .int .i64 (dn j).2, .bool false] 24)).alloc (.cells #[.string (up j).1, .int .i64 (up j).2, .bool false] 24))) := ⟨((F51.out.1).step ((Below.refl _ _).alloc (Nat.le_refl _) _)).step ((Below.refl _ _).alloc (Nat.le_refl _) _), ((F51.out.2.1).step ((Below.refl _ _).alloc (Nat.le_refl _) _)).step ((Below.refl _ _).alloc (Nat.le_refl _) _), (Bk.newL w21 [.string (dn j).1, .int .i64 (dn j).2, .bool false] 24).step ((Below.refl _ _).alloc (Nat.le_refl _) _), ((by have q := Bk.newL (w21.alloc (.cells #[.string (dn j).1, .int .i64 (dn j).2, .bool false] 24)) [.string (up j).1, .int .i64 (up j).2, .bool false] 24; simpa using q) : Bk ((w21.alloc (.cells #[.string (dn j).1, .int .i64 (dn j).2, .bool false] 24)).alloc (.cells #[.string (up j).1, .int .i64 (up j).2, .bool false] 24)) (w21.heap.size + 1) [.string (up j).1, .int .i64 (up j).2, .bool false]), ((F51.out.2.2).alloc ((F51.out.2.2).size) _).alloc (((F51.out.2.2).alloc ((F51.out.2.2).size) _).size) _⟩
    clear F51
    go_upto_region 6 with fail
    generalize ((w21.alloc (.cells #[.string (dn j).1, .int .i64 (dn j).2, .bool false] 24)).alloc (.cells #[.string (up j).1, .int .i64 (up j).2, .bool false] 24)) = w22 at *
    have l22_0 := F52.out.1.lt
    have a22_0_0 := F52.out.1.cell 0 _ rfl
    have f22_0_0 := F52.out.1.fz 0
    have a22_0_1 := F52.out.1.cell 1 _ rfl
    have f22_0_1 := F52.out.1.fz 1
    have a22_0_2 := F52.out.1.cell 2 _ rfl
    have f22_0_2 := F52.out.1.fz 2
    have l22_1 := F52.out.2.1.lt
    have a22_1_0 := F52.out.2.1.cell 0 _ rfl
    have f22_1_0 := F52.out.2.1.fz 0
    have a22_1_1 := F52.out.2.1.cell 1 _ rfl
    have f22_1_1 := F52.out.2.1.fz 1
    have a22_1_2 := F52.out.2.1.cell 2 _ rfl
    have f22_1_2 := F52.out.2.1.fz 2
    have l22_2 := F52.out.2.2.1.lt
    have a22_2_0 := F52.out.2.2.1.cell 0 _ rfl
    have f22_2_0 := F52.out.2.2.1.fz 0
    have a22_2_1 := F52.out.2.2.1.cell 1 _ rfl
    have f22_2_1 := F52.out.2.2.1.fz 1
    have a22_2_2 := F52.out.2.2.1.cell 2 _ rfl
    have f22_2_2 := F52.out.2.2.1.fz 2
    have l22_3 := F52.out.2.2.2.1.lt
    have a22_3_0 := F52.out.2.2.2.1.cell 0 _ rfl
    have f22_3_0 := F52.out.2.2.2.1.fz 0
    have a22_3_1 := F52.out.2.2.2.1.cell 1 _ rfl
    have f22_3_1 := F52.out.2.2.2.1.fz 1
    have a22_3_2 := F52.out.2.2.2.1.cell 2 _ rfl
    have f22_3_2 := F52.out.2.2.2.1.fz 2
    have ne22_0_1 : ¬ w.heap.size = w2.heap.size := by omega
    have ne22_0_2 : ¬ w.heap.size = w21.heap.size := by omega
    have ne22_0_3 : ¬ w.heap.size = w21.heap.size + 1 := by omega
    have ne22_1_0 : ¬ w2.heap.size = w.heap.size := by omega
    have ne22_1_2 : ¬ w2.heap.size = w21.heap.size := by omega
    have ne22_1_3 : ¬ w2.heap.size = w21.heap.size + 1 := by omega
    have ne22_2_0 : ¬ w21.heap.size = w.heap.size := by omega
    have ne22_2_1 : ¬ w21.heap.size = w2.heap.size := by omega
    have ne22_2_3 : ¬ w21.heap.size = w21.heap.size + 1 := by omega
    have ne22_3_0 : ¬ w21.heap.size + 1 = w.heap.size := by omega
    have ne22_3_1 : ¬ w21.heap.size + 1 = w2.heap.size := by omega
    have ne22_3_2 : ¬ w21.heap.size + 1 = w21.heap.size := by omega
    go_wp2
    go_roundw
    case rel => exact ⟨j + 1, by first | rfl | go_num, by omega, by omega, ⟨F52.out.1, F52.out.2.1, F52.out.2.2.2.2⟩⟩
    case measure => simp [intOf]; omega
  · obtain rfl : j = M := by omega
    have l21_0 := F50.out.1.lt
    have a21_0_0 := F50.out.1.cell 0 _ rfl
    have f21_0_0 := F50.out.1.fz 0
    have a21_0_1 := F50.out.1.cell 1 _ rfl
    have f21_0_1 := F50.out.1.fz 1
    have a21_0_2 := F50.out.1.cell 2 _ rfl
    have f21_0_2 := F50.out.1.fz 2
    have l21_1 := F50.out.2.1.lt
    have a21_1_0 := F50.out.2.1.cell 0 _ rfl
    have f21_1_0 := F50.out.2.1.fz 0
    have a21_1_1 := F50.out.2.1.cell 1 _ rfl
    have f21_1_1 := F50.out.2.1.fz 1
    have a21_1_2 := F50.out.2.1.cell 2 _ rfl
    have f21_1_2 := F50.out.2.1.fz 2
    have ne21_0_1 : ¬ w.heap.size = w2.heap.size := by omega
    have ne21_1_0 : ¬ w2.heap.size = w.heap.size := by omega
    go_wp2_with fail
    refine (HK _).mono ?_
    rintro o21 w21 ⟨rfl, bb⟩
    have F51 : Hid (Bk w21 (w.heap.size) [.string ⟨#[]⟩, .int .i64 0, .bool false] ∧ Bk w21 (w2.heap.size) [.string u, .int .i64 o, .bool false] ∧ Below w.heap.size w w21) := ⟨(F50.out.1).step bb, (F50.out.2.1).step bb, (F50.out.2.2).trans (bb.mono (F50.out.2.2).size)⟩
    clear F50
    clear bb
    clear l21_0 a21_0_0 f21_0_0 a21_0_1 f21_0_1 a21_0_2 f21_0_2 l21_1 a21_1_0 f21_1_0 a21_1_1 f21_1_1 a21_1_2 f21_1_2
    have lt0_2 := (F51.out.1).lt
    have lt1_2 := (F51.out.2.1).lt
    have le2 := (F51.out.2.2).size
    have F52 : Hid (Bk ((w21.alloc (.cells #[.string a1, .int .i64 a2, .bool false] 24)).alloc (.cells #[.string c1, .int .i64 c2, .bool false] 24)) (w.heap.size) [.string ⟨#[]⟩, .int .i64 0, .bool false] ∧ Bk ((w21.alloc (.cells #[.string a1, .int .i64 a2, .bool false] 24)).alloc (.cells #[.string c1, .int .i64 c2, .bool false] 24)) (w2.heap.size) [.string u, .int .i64 o, .bool false] ∧ Bk ((w21.alloc (.cells #[.string a1, .int .i64 a2, .bool false] 24)).alloc (.cells #[.string c1, .int .i64 c2, .bool false] 24)) (w21.heap.size) [.string a1, .int .i64 a2, .bool false] ∧ Bk ((w21.alloc (.cells #[.string a1, .int .i64 a2, .bool false] 24)).alloc (.cells #[.string c1, .int .i64 c2, .bool false] 24)) (w21.heap.size + 1) [.string c1, .int .i64 c2, .bool false] ∧ Below w.heap.size w ((w21.alloc (.cells #[.string a1, .int .i64 a2, .bool false] 24)).alloc (.cells #[.string c1, .int .i64 c2, .bool false] 24))) := ⟨((F51.out.1).step ((Below.refl _ _).alloc (Nat.le_refl _) _)).step ((Below.refl _ _).alloc (Nat.le_refl _) _), ((F51.out.2.1).step ((Below.refl _ _).alloc (Nat.le_refl _) _)).step ((Below.refl _ _).alloc (Nat.le_refl _) _), (Bk.newL w21 [.string a1, .int .i64 a2, .bool false] 24).step ((Below.refl _ _).alloc (Nat.le_refl _) _), ((by have q := Bk.newL (w21.alloc (.cells #[.string a1, .int .i64 a2, .bool false] 24)) [.string c1, .int .i64 c2, .bool false] 24; simpa using q) : Bk ((w21.alloc (.cells #[.string a1, .int .i64 a2, .bool false] 24)).alloc (.cells #[.string c1, .int .i64 c2, .bool false] 24)) (w21.heap.size + 1) [.string c1, .int .i64 c2, .bool false]), ((F51.out.2.2).alloc ((F51.out.2.2).size) _).alloc (((F51.out.2.2).alloc ((F51.out.2.2).size) _).size) _⟩
    clear F51
    go_upto_region 6 with fail
    generalize ((w21.alloc (.cells #[.string a1, .int .i64 a2, .bool false] 24)).alloc (.cells #[.string c1, .int .i64 c2, .bool false] 24)) = w22 at *
    have l22_0 := F52.out.1.lt
    have a22_0_0 := F52.out.1.cell 0 _ rfl
    have f22_0_0 := F52.out.1.fz 0
    have a22_0_1 := F52.out.1.cell 1 _ rfl
    have f22_0_1 := F52.out.1.fz 1
    have a22_0_2 := F52.out.1.cell 2 _ rfl
    have f22_0_2 := F52.out.1.fz 2
    have l22_1 := F52.out.2.1.lt
    have a22_1_0 := F52.out.2.1.cell 0 _ rfl
    have f22_1_0 := F52.out.2.1.fz 0
    have a22_1_1 := F52.out.2.1.cell 1 _ rfl
    have f22_1_1 := F52.out.2.1.fz 1
    have a22_1_2 := F52.out.2.1.cell 2 _ rfl
    have f22_1_2 := F52.out.2.1.fz 2
    have l22_2 := F52.out.2.2.1.lt
    have a22_2_0 := F52.out.2.2.1.cell 0 _ rfl
    have f22_2_0 := F52.out.2.2.1.fz 0
    have a22_2_1 := F52.out.2.2.1.cell 1 _ rfl
    have f22_2_1 := F52.out.2.2.1.fz 1
    have a22_2_2 := F52.out.2.2.1.cell 2 _ rfl
    have f22_2_2 := F52.out.2.2.1.fz 2
    have l22_3 := F52.out.2.2.2.1.lt
    have a22_3_0 := F52.out.2.2.2.1.cell 0 _ rfl
    have f22_3_0 := F52.out.2.2.2.1.fz 0
    have a22_3_1 := F52.out.2.2.2.1.cell 1 _ rfl
    have f22_3_1 := F52.out.2.2.2.1.fz 1
    have a22_3_2 := F52.out.2.2.2.1.cell 2 _ rfl
    have f22_3_2 := F52.out.2.2.2.1.fz 2
    have ne22_0_1 : ¬ w.heap.size = w2.heap.size := by omega
    have ne22_0_2 : ¬ w.heap.size = w21.heap.size := by omega
    have ne22_0_3 : ¬ w.heap.size = w21.heap.size + 1 := by omega
    have ne22_1_0 : ¬ w2.heap.size = w.heap.size := by omega
    have ne22_1_2 : ¬ w2.heap.size = w21.heap.size := by omega
    have ne22_1_3 : ¬ w2.heap.size = w21.heap.size + 1 := by omega
    have ne22_2_0 : ¬ w21.heap.size = w.heap.size := by omega
    have ne22_2_1 : ¬ w21.heap.size = w2.heap.size := by omega
    have ne22_2_3 : ¬ w21.heap.size = w21.heap.size + 1 := by omega
    have ne22_3_0 : ¬ w21.heap.size + 1 = w.heap.size := by omega
    have ne22_3_1 : ¬ w21.heap.size + 1 = w2.heap.size := by omega
    have ne22_3_2 : ¬ w21.heap.size + 1 = w21.heap.size := by omega
    go_wp2_with fail
    refine (HR _).mono ?_
    rintro o23 w23 ⟨rfl, bb⟩
    have F53 : Hid (Bk w23 (w.heap.size) [.string ⟨#[]⟩, .int .i64 0, .bool false] ∧ Bk w23 (w2.heap.size) [.string u, .int .i64 o, .bool false] ∧ Bk w23 (w21.heap.size) [.string a1, .int .i64 a2, .bool false] ∧ Bk w23 (w21.heap.size + 1) [.string c1, .int .i64 c2, .bool false] ∧ Below w.heap.size w w23) := ⟨(F52.out.1).step bb, (F52.out.2.1).step bb, (F52.out.2.2.1).step bb, (F52.out.2.2.2.1).step bb, (F52.out.2.2.2.2).trans (bb.mono (F52.out.2.2.2.2).size)⟩
    clear F52
    clear bb
    clear l22_0 a22_0_0 f22_0_0 a22_0_1 f22_0_1 a22_0_2 f22_0_2 l22_1 a22_1_0 f22_1_0 a22_1_1 f22_1_1 a22_1_2 f22_1_2 l22_2 a22_2_0 f22_2_0 a22_2_1 f22_2_1 a22_2_2 f22_2_2 l22_3 a22_3_0 f22_3_0 a22_3_1 f22_3_1 a22_3_2 f22_3_2
    have lt0_4 := (F53.out.1).lt
    have lt1_4 := (F53.out.2.1).lt
    have lt2_4 := (F53.out.2.2.1).lt
    have lt3_4 := (F53.out.2.2.2.1).lt
    have le4 := (F53.out.2.2.2.2).size
    have F54 : Hid (Bk (w23.alloc (.cells #[.string r1, .int .i64 r2, .bool false] 24)) (w.heap.size) [.string ⟨#[]⟩, .int .i64 0, .bool false] ∧ Bk (w23.alloc (.cells #[.string r1, .int .i64 r2, .bool false] 24)) (w2.heap.size) [.string u, .int .i64 o, .bool false] ∧ Bk (w23.alloc (.cells #[.string r1, .int .i64 r2, .bool false] 24)) (w21.heap.size) [.string a1, .int .i64 a2, .bool false] ∧ Bk (w23.alloc (.cells #[.string r1, .int .i64 r2, .bool false] 24)) (w21.heap.size + 1) [.string c1, .int .i64 c2, .bool false] ∧ Bk (w23.alloc (.cells #[.string r1, .int .i64 r2, .bool false] 24)) (w23.heap.size) [.string r1, .int .i64 r2, .bool false] ∧ Below w.heap.size w (w23.alloc (.cells #[.string r1, .int .i64 r2, .bool false] 24))) := ⟨(F53.out.1).step ((Below.refl _ _).alloc (Nat.le_refl _) _), (F53.out.2.1).step ((Below.refl _ _).alloc (Nat.le_refl _) _), (F53.out.2.2.1).step ((Below.refl _ _).alloc (Nat.le_refl _) _), (F53.out.2.2.2.1).step ((Below.refl _ _).alloc (Nat.le_refl _) _), Bk.newL w23 [.string r1, .int .i64 r2, .bool false] 24, (F53.out.2.2.2.2).alloc ((F53.out.2.2.2.2).size) _⟩
    clear F53
    go_upto_region 8 with fail
    generalize (w23.alloc (.cells #[.string r1, .int .i64 r2, .bool false] 24)) = w24 at *
    have l23_0 := F54.out.1.lt
    have a23_0_0 := F54.out.1.cell 0 _ rfl
    have f23_0_0 := F54.out.1.fz 0
    have a23_0_1 := F54.out.1.cell 1 _ rfl
    have f23_0_1 := F54.out.1.fz 1
    have a23_0_2 := F54.out.1.cell 2 _ rfl
    have f23_0_2 := F54.out.1.fz 2
    have l23_1 := F54.out.2.1.lt
    have a23_1_0 := F54.out.2.1.cell 0 _ rfl
    have f23_1_0 := F54.out.2.1.fz 0
    have a23_1_1 := F54.out.2.1.cell 1 _ rfl
    have f23_1_1 := F54.out.2.1.fz 1
    have a23_1_2 := F54.out.2.1.cell 2 _ rfl
    have f23_1_2 := F54.out.2.1.fz 2
    have l23_2 := F54.out.2.2.1.lt
    have a23_2_0 := F54.out.2.2.1.cell 0 _ rfl
    have f23_2_0 := F54.out.2.2.1.fz 0
    have a23_2_1 := F54.out.2.2.1.cell 1 _ rfl
    have f23_2_1 := F54.out.2.2.1.fz 1
    have a23_2_2 := F54.out.2.2.1.cell 2 _ rfl
    have f23_2_2 := F54.out.2.2.1.fz 2
    have l23_3 := F54.out.2.2.2.1.lt
    have a23_3_0 := F54.out.2.2.2.1.cell 0 _ rfl
    have f23_3_0 := F54.out.2.2.2.1.fz 0
    have a23_3_1 := F54.out.2.2.2.1.cell 1 _ rfl
    have f23_3_1 := F54.out.2.2.2.1.fz 1
    have a23_3_2 := F54.out.2.2.2.1.cell 2 _ rfl
    have f23_3_2 := F54.out.2.2.2.1.fz 2
    have l23_4 := F54.out.2.2.2.2.1.lt
    have a23_4_0 := F54.out.2.2.2.2.1.cell 0 _ rfl
    have f23_4_0 := F54.out.2.2.2.2.1.fz 0
    have a23_4_1 := F54.out.2.2.2.2.1.cell 1 _ rfl
    have f23_4_1 := F54.out.2.2.2.2.1.fz 1
    have a23_4_2 := F54.out.2.2.2.2.1.cell 2 _ rfl
    have f23_4_2 := F54.out.2.2.2.2.1.fz 2
    have ne23_0_1 : ¬ w.heap.size = w2.heap.size := by omega
    have ne23_0_2 : ¬ w.heap.size = w21.heap.size := by omega
    have ne23_0_3 : ¬ w.heap.size = w21.heap.size + 1 := by omega
    have ne23_0_4 : ¬ w.heap.size = w23.heap.size := by omega
    have ne23_1_0 : ¬ w2.heap.size = w.heap.size := by omega
    have ne23_1_2 : ¬ w2.heap.size = w21.heap.size := by omega
    have ne23_1_3 : ¬ w2.heap.size = w21.heap.size + 1 := by omega
    have ne23_1_4 : ¬ w2.heap.size = w23.heap.size := by omega
    have ne23_2_0 : ¬ w21.heap.size = w.heap.size := by omega
    have ne23_2_1 : ¬ w21.heap.size = w2.heap.size := by omega
    have ne23_2_3 : ¬ w21.heap.size = w21.heap.size + 1 := by omega
    have ne23_2_4 : ¬ w21.heap.size = w23.heap.size := by omega
    have ne23_3_0 : ¬ w21.heap.size + 1 = w.heap.size := by omega
    have ne23_3_1 : ¬ w21.heap.size + 1 = w2.heap.size := by omega
    have ne23_3_2 : ¬ w21.heap.size + 1 = w21.heap.size := by omega
    have ne23_3_4 : ¬ w21.heap.size + 1 = w23.heap.size := by omega
    have ne23_4_0 : ¬ w23.heap.size = w.heap.size := by omega
    have ne23_4_1 : ¬ w23.heap.size = w2.heap.size := by omega
    have ne23_4_2 : ¬ w23.heap.size = w21.heap.size := by omega
    have ne23_4_3 : ¬ w23.heap.size = w21.heap.size + 1 := by omega
    go_wp2
    refine bodyPost_ret (v := .agg #[.string r1, .int .i64 r2, .bool false]) (by simp [results, Tryz.results10, go_sem, World.cell?_setCell_same, World.cell?_setCell_other, *]) rfl ⟨rfl, ?_⟩
    repeat (first | refine Below.setCell ?_ (by first | exact Nat.le_refl _ | (dsimp only; omega)) _ | refine Below.alloc ?_ (by first | exact Nat.le_refl _ | omega | (simp; omega)) _ | refine Below.drew ?_)
    exact F54.out.2.2.2.2.2
theorem rs_tf {b z : Int} {u a1 c1 : ByteArray} {o a2 c2 : Int} {M : Nat} {dn up : Nat → Dp} (m1 : 1 ≤ M) (m17 : M ≤ 17) (HE : ∀ W, Calls Tryz.prog 21 #[.int .u64 b, .int .i64 z] W fun e w' => e = .returned (.tuple #[.agg #[.string u, .int .i64 o, .bool false], .int .i64 0]) ∧ Below W.heap.size W w') (HN : ∀ j : Nat, 1 ≤ j → j < M → ∀ W, Calls Tryz.prog 22 #[.int .u64 b, .int .i64 z, .int .i64 (j : Int)] W fun e w' => e = .returned (.tuple #[.agg #[.string (dn j).1, .int .i64 (dn j).2, .bool false], .bool false, .agg #[.string (up j).1, .int .i64 (up j).2, .bool false], .bool false]) ∧ Below W.heap.size W w') (HK : ∀ W, Calls Tryz.prog 22 #[.int .u64 b, .int .i64 z, .int .i64 (M : Int)] W fun e w' => e = .returned (.tuple #[.agg #[.string a1, .int .i64 a2, .bool false], .bool true, .agg #[.string c1, .int .i64 c2, .bool false], .bool false]) ∧ Below W.heap.size W w') (w : World) :
 Calls Tryz.prog 10 #[.int .u64 b, .int .i64 z] w fun x w' => x = .returned (.agg #[.string a1, .int .i64 a2, .bool false]) ∧ Below w.heap.size w w' := by
 have F0 : Hid (Bk (w.alloc (.cells #[.string ⟨#[]⟩, .int .i64 0, .bool false] 24)) (w.heap.size) [.string ⟨#[]⟩, .int .i64 0, .bool false] ∧ Below w.heap.size w (w.alloc (.cells #[.string ⟨#[]⟩, .int .i64 0, .bool false] 24))) := ⟨Bk.newL w [.string ⟨#[]⟩, .int .i64 0, .bool false] 24, ((Below.refl w.heap.size w)).alloc (Nat.le_refl _) _⟩
 go_enter Tryz.func10, Tryz.ntmps10
 go_upto_region 1 with fail
 generalize (w.alloc (.cells #[.string ⟨#[]⟩, .int .i64 0, .bool false] 24)) = w1 at *
 go_wp2_with fail
 all_goals first | (exfalso; omega) | skip
 refine (HE _).mono ?_
 rintro o2 w2 ⟨rfl, bb⟩
 have F1 : Hid (Bk w2 (w.heap.size) [.string ⟨#[]⟩, .int .i64 0, .bool false] ∧ Below w.heap.size w w2) := ⟨(F0.out.1).step bb, (F0.out.2).trans (bb.mono (F0.out.2).size)⟩
 clear F0
 clear bb
 have lt0_1 := (F1.out.1).lt
 have le1 := (F1.out.2).size
 have F2 : Hid (Bk (w2.alloc (.cells #[.string u, .int .i64 o, .bool false] 24)) (w.heap.size) [.string ⟨#[]⟩, .int .i64 0, .bool false] ∧ Bk (w2.alloc (.cells #[.string u, .int .i64 o, .bool false] 24)) (w2.heap.size) [.string u, .int .i64 o, .bool false] ∧ Below w.heap.size w (w2.alloc (.cells #[.string u, .int .i64 o, .bool false] 24))) := ⟨(F1.out.1).step ((Below.refl _ _).alloc (Nat.le_refl _) _), Bk.newL w2 [.string u, .int .i64 o, .bool false] 24, (F1.out.2).alloc ((F1.out.2).size) _⟩
 clear F1
 go_upto_region 2 with fail
 generalize (w2.alloc (.cells #[.string u, .int .i64 o, .bool false] 24)) = w3 at *
 have l1_0 := F2.out.1.lt
 have a1_0_0 := F2.out.1.cell 0 _ rfl
 have f1_0_0 := F2.out.1.fz 0
 have a1_0_1 := F2.out.1.cell 1 _ rfl
 have f1_0_1 := F2.out.1.fz 1
 have a1_0_2 := F2.out.1.cell 2 _ rfl
 have f1_0_2 := F2.out.1.fz 2
 have l1_1 := F2.out.2.1.lt
 have a1_1_0 := F2.out.2.1.cell 0 _ rfl
 have f1_1_0 := F2.out.2.1.fz 0
 have a1_1_1 := F2.out.2.1.cell 1 _ rfl
 have f1_1_1 := F2.out.2.1.fz 1
 have a1_1_2 := F2.out.2.1.cell 2 _ rfl
 have f1_1_2 := F2.out.2.1.fz 2
 have ne1_0_1 : ¬ w.heap.size = w2.heap.size := by omega
 have ne1_1_0 : ¬ w2.heap.size = w.heap.size := by omega
 go_wp2
 have IB : Hid (Bk w3 (w.heap.size) [.string ⟨#[]⟩, .int .i64 0, .bool false] ∧ Bk w3 (w2.heap.size) [.string u, .int .i64 o, .bool false] ∧ Below w.heap.size w w3) := F2.out
 clear l1_0 a1_0_0 f1_0_0 a1_0_1 f1_0_1 a1_0_2 f1_0_2 l1_1 a1_1_0 f1_1_0 a1_1_1 f1_1_1 a1_1_2 f1_1_2
 go_loopw [7] (fun nv wr => ∃ j : Nat, nv = .int .i64 (j : Int) ∧ 1 ≤ j ∧ j ≤ M ∧ Hid (Bk wr (w.heap.size) [.string ⟨#[]⟩, .int .i64 0, .bool false] ∧ Bk wr (w2.heap.size) [.string u, .int .i64 o, .bool false] ∧ Below w.heap.size w wr)) (fun nv _ => 20 - (intOf nv).toNat)
 case atStart => exact ⟨1, rfl, by omega, m1, IB⟩
 case round =>
  obtain ⟨j, rfl, j1, jN, HB⟩ := hrel
  clear IB F2
  have F50 := HB
  clear HB
  have j17 : j ≤ 17 := by omega
  by_cases c : j < M
  · have HJ := HN j j1 c
    have l21_0 := F50.out.1.lt
    have a21_0_0 := F50.out.1.cell 0 _ rfl
    have f21_0_0 := F50.out.1.fz 0
    have a21_0_1 := F50.out.1.cell 1 _ rfl
    have f21_0_1 := F50.out.1.fz 1
    have a21_0_2 := F50.out.1.cell 2 _ rfl
    have f21_0_2 := F50.out.1.fz 2
    have l21_1 := F50.out.2.1.lt
    have a21_1_0 := F50.out.2.1.cell 0 _ rfl
    have f21_1_0 := F50.out.2.1.fz 0
    have a21_1_1 := F50.out.2.1.cell 1 _ rfl
    have f21_1_1 := F50.out.2.1.fz 1
    have a21_1_2 := F50.out.2.1.cell 2 _ rfl
    have f21_1_2 := F50.out.2.1.fz 2
    have ne21_0_1 : ¬ w.heap.size = w2.heap.size := by omega
    have ne21_1_0 : ¬ w2.heap.size = w.heap.size := by omega
    go_wp2_with fail
    refine (HJ _).mono ?_
    rintro o21 w21 ⟨rfl, bb⟩
    have F51 : Hid (Bk w21 (w.heap.size) [.string ⟨#[]⟩, .int .i64 0, .bool false] ∧ Bk w21 (w2.heap.size) [.string u, .int .i64 o, .bool false] ∧ Below w.heap.size w w21) := ⟨(F50.out.1).step bb, (F50.out.2.1).step bb, (F50.out.2.2).trans (bb.mono (F50.out.2.2).size)⟩
    clear F50
    clear bb
    clear l21_0 a21_0_0 f21_0_0 a21_0_1 f21_0_1 a21_0_2 f21_0_2 l21_1 a21_1_0 f21_1_0 a21_1_1 f21_1_1 a21_1_2 f21_1_2
    have lt0_2 := (F51.out.1).lt
    have lt1_2 := (F51.out.2.1).lt
    have le2 := (F51.out.2.2).size
    have F52 : Hid (Bk ((w21.alloc (.cells #[.string (dn j).1, .int .i64 (dn j).2, .bool false] 24)).alloc (.cells #[.string (up j).1, .int .i64 (up j).2, .bool false] 24)) (w.heap.size) [.string ⟨#[]⟩, .int .i64 0, .bool false] ∧ Bk ((w21.alloc (.cells #[.string (dn j).1, .int .i64 (dn j).2, .bool false] 24)).alloc (.cells #[.string (up j).1, .int .i64 (up j).2, .bool false] 24)) (w2.heap.size) [.string u, .int .i64 o, .bool false] ∧ Bk ((w21.alloc (.cells #[.string (dn j).1, .int .i64 (dn j).2, .bool false] 24)).alloc (.cells #[.string (up j).1, .int .i64 (up j).2, .bool false] 24)) (w21.heap.size) [.string (dn j).1, .int .i64 (dn j).2, .bool false] ∧ Bk ((w21.alloc (.cells #[.string (dn j).1, .int .i64 (dn j).2, .bool false] 24)).alloc (.cells #[.string (up j).1, .int .i64 (up j).2, .bool false] 24)) (w21.heap.size + 1) [.string (up j).1, .int .i64 (up j).2, .bool false] ∧ Below w.heap.size w ((w21.alloc (.cells #[.string (dn j).1, .int .i64 (dn j).2, .bool false] 24)).alloc (.cells #[.string (up j).1, .int .i64 (up j).2, .bool false] 24))) := ⟨((F51.out.1).step ((Below.refl _ _).alloc (Nat.le_refl _) _)).step ((Below.refl _ _).alloc (Nat.le_refl _) _), ((F51.out.2.1).step ((Below.refl _ _).alloc (Nat.le_refl _) _)).step ((Below.refl _ _).alloc (Nat.le_refl _) _), (Bk.newL w21 [.string (dn j).1, .int .i64 (dn j).2, .bool false] 24).step ((Below.refl _ _).alloc (Nat.le_refl _) _), ((by have q := Bk.newL (w21.alloc (.cells #[.string (dn j).1, .int .i64 (dn j).2, .bool false] 24)) [.string (up j).1, .int .i64 (up j).2, .bool false] 24; simpa using q) : Bk ((w21.alloc (.cells #[.string (dn j).1, .int .i64 (dn j).2, .bool false] 24)).alloc (.cells #[.string (up j).1, .int .i64 (up j).2, .bool false] 24)) (w21.heap.size + 1) [.string (up j).1, .int .i64 (up j).2, .bool false]), ((F51.out.2.2).alloc ((F51.out.2.2).size) _).alloc (((F51.out.2.2).alloc ((F51.out.2.2).size) _).size) _⟩
    clear F51
    go_upto_region 6 with fail
    generalize ((w21.alloc (.cells #[.string (dn j).1, .int .i64 (dn j).2, .bool false] 24)).alloc (.cells #[.string (up j).1, .int .i64 (up j).2, .bool false] 24)) = w22 at *
    have l22_0 := F52.out.1.lt
    have a22_0_0 := F52.out.1.cell 0 _ rfl
    have f22_0_0 := F52.out.1.fz 0
    have a22_0_1 := F52.out.1.cell 1 _ rfl
    have f22_0_1 := F52.out.1.fz 1
    have a22_0_2 := F52.out.1.cell 2 _ rfl
    have f22_0_2 := F52.out.1.fz 2
    have l22_1 := F52.out.2.1.lt
    have a22_1_0 := F52.out.2.1.cell 0 _ rfl
    have f22_1_0 := F52.out.2.1.fz 0
    have a22_1_1 := F52.out.2.1.cell 1 _ rfl
    have f22_1_1 := F52.out.2.1.fz 1
    have a22_1_2 := F52.out.2.1.cell 2 _ rfl
    have f22_1_2 := F52.out.2.1.fz 2
    have l22_2 := F52.out.2.2.1.lt
    have a22_2_0 := F52.out.2.2.1.cell 0 _ rfl
    have f22_2_0 := F52.out.2.2.1.fz 0
    have a22_2_1 := F52.out.2.2.1.cell 1 _ rfl
    have f22_2_1 := F52.out.2.2.1.fz 1
    have a22_2_2 := F52.out.2.2.1.cell 2 _ rfl
    have f22_2_2 := F52.out.2.2.1.fz 2
    have l22_3 := F52.out.2.2.2.1.lt
    have a22_3_0 := F52.out.2.2.2.1.cell 0 _ rfl
    have f22_3_0 := F52.out.2.2.2.1.fz 0
    have a22_3_1 := F52.out.2.2.2.1.cell 1 _ rfl
    have f22_3_1 := F52.out.2.2.2.1.fz 1
    have a22_3_2 := F52.out.2.2.2.1.cell 2 _ rfl
    have f22_3_2 := F52.out.2.2.2.1.fz 2
    have ne22_0_1 : ¬ w.heap.size = w2.heap.size := by omega
    have ne22_0_2 : ¬ w.heap.size = w21.heap.size := by omega
    have ne22_0_3 : ¬ w.heap.size = w21.heap.size + 1 := by omega
    have ne22_1_0 : ¬ w2.heap.size = w.heap.size := by omega
    have ne22_1_2 : ¬ w2.heap.size = w21.heap.size := by omega
    have ne22_1_3 : ¬ w2.heap.size = w21.heap.size + 1 := by omega
    have ne22_2_0 : ¬ w21.heap.size = w.heap.size := by omega
    have ne22_2_1 : ¬ w21.heap.size = w2.heap.size := by omega
    have ne22_2_3 : ¬ w21.heap.size = w21.heap.size + 1 := by omega
    have ne22_3_0 : ¬ w21.heap.size + 1 = w.heap.size := by omega
    have ne22_3_1 : ¬ w21.heap.size + 1 = w2.heap.size := by omega
    have ne22_3_2 : ¬ w21.heap.size + 1 = w21.heap.size := by omega
    go_wp2
    go_roundw
    case rel => exact ⟨j + 1, by first | rfl | go_num, by omega, by omega, ⟨F52.out.1, F52.out.2.1, F52.out.2.2.2.2⟩⟩
    case measure => simp [intOf]; omega
  · obtain rfl : j = M := by omega
    have l21_0 := F50.out.1.lt
    have a21_0_0 := F50.out.1.cell 0 _ rfl
    have f21_0_0 := F50.out.1.fz 0
    have a21_0_1 := F50.out.1.cell 1 _ rfl
    have f21_0_1 := F50.out.1.fz 1
    have a21_0_2 := F50.out.1.cell 2 _ rfl
    have f21_0_2 := F50.out.1.fz 2
    have l21_1 := F50.out.2.1.lt
    have a21_1_0 := F50.out.2.1.cell 0 _ rfl
    have f21_1_0 := F50.out.2.1.fz 0
    have a21_1_1 := F50.out.2.1.cell 1 _ rfl
    have f21_1_1 := F50.out.2.1.fz 1
    have a21_1_2 := F50.out.2.1.cell 2 _ rfl
    have f21_1_2 := F50.out.2.1.fz 2
    have ne21_0_1 : ¬ w.heap.size = w2.heap.size := by omega
    have ne21_1_0 : ¬ w2.heap.size = w.heap.size := by omega
    go_wp2_with fail
    refine (HK _).mono ?_
    rintro o21 w21 ⟨rfl, bb⟩
    have F51 : Hid (Bk w21 (w.heap.size) [.string ⟨#[]⟩, .int .i64 0, .bool false] ∧ Bk w21 (w2.heap.size) [.string u, .int .i64 o, .bool false] ∧ Below w.heap.size w w21) := ⟨(F50.out.1).step bb, (F50.out.2.1).step bb, (F50.out.2.2).trans (bb.mono (F50.out.2.2).size)⟩
    clear F50
    clear bb
    clear l21_0 a21_0_0 f21_0_0 a21_0_1 f21_0_1 a21_0_2 f21_0_2 l21_1 a21_1_0 f21_1_0 a21_1_1 f21_1_1 a21_1_2 f21_1_2
    have lt0_2 := (F51.out.1).lt
    have lt1_2 := (F51.out.2.1).lt
    have le2 := (F51.out.2.2).size
    have F52 : Hid (Bk ((w21.alloc (.cells #[.string a1, .int .i64 a2, .bool false] 24)).alloc (.cells #[.string c1, .int .i64 c2, .bool false] 24)) (w.heap.size) [.string ⟨#[]⟩, .int .i64 0, .bool false] ∧ Bk ((w21.alloc (.cells #[.string a1, .int .i64 a2, .bool false] 24)).alloc (.cells #[.string c1, .int .i64 c2, .bool false] 24)) (w2.heap.size) [.string u, .int .i64 o, .bool false] ∧ Bk ((w21.alloc (.cells #[.string a1, .int .i64 a2, .bool false] 24)).alloc (.cells #[.string c1, .int .i64 c2, .bool false] 24)) (w21.heap.size) [.string a1, .int .i64 a2, .bool false] ∧ Bk ((w21.alloc (.cells #[.string a1, .int .i64 a2, .bool false] 24)).alloc (.cells #[.string c1, .int .i64 c2, .bool false] 24)) (w21.heap.size + 1) [.string c1, .int .i64 c2, .bool false] ∧ Below w.heap.size w ((w21.alloc (.cells #[.string a1, .int .i64 a2, .bool false] 24)).alloc (.cells #[.string c1, .int .i64 c2, .bool false] 24))) := ⟨((F51.out.1).step ((Below.refl _ _).alloc (Nat.le_refl _) _)).step ((Below.refl _ _).alloc (Nat.le_refl _) _), ((F51.out.2.1).step ((Below.refl _ _).alloc (Nat.le_refl _) _)).step ((Below.refl _ _).alloc (Nat.le_refl _) _), (Bk.newL w21 [.string a1, .int .i64 a2, .bool false] 24).step ((Below.refl _ _).alloc (Nat.le_refl _) _), ((by have q := Bk.newL (w21.alloc (.cells #[.string a1, .int .i64 a2, .bool false] 24)) [.string c1, .int .i64 c2, .bool false] 24; simpa using q) : Bk ((w21.alloc (.cells #[.string a1, .int .i64 a2, .bool false] 24)).alloc (.cells #[.string c1, .int .i64 c2, .bool false] 24)) (w21.heap.size + 1) [.string c1, .int .i64 c2, .bool false]), ((F51.out.2.2).alloc ((F51.out.2.2).size) _).alloc (((F51.out.2.2).alloc ((F51.out.2.2).size) _).size) _⟩
    clear F51
    go_upto_region 6 with fail
    generalize ((w21.alloc (.cells #[.string a1, .int .i64 a2, .bool false] 24)).alloc (.cells #[.string c1, .int .i64 c2, .bool false] 24)) = w22 at *
    have l22_0 := F52.out.1.lt
    have a22_0_0 := F52.out.1.cell 0 _ rfl
    have f22_0_0 := F52.out.1.fz 0
    have a22_0_1 := F52.out.1.cell 1 _ rfl
    have f22_0_1 := F52.out.1.fz 1
    have a22_0_2 := F52.out.1.cell 2 _ rfl
    have f22_0_2 := F52.out.1.fz 2
    have l22_1 := F52.out.2.1.lt
    have a22_1_0 := F52.out.2.1.cell 0 _ rfl
    have f22_1_0 := F52.out.2.1.fz 0
    have a22_1_1 := F52.out.2.1.cell 1 _ rfl
    have f22_1_1 := F52.out.2.1.fz 1
    have a22_1_2 := F52.out.2.1.cell 2 _ rfl
    have f22_1_2 := F52.out.2.1.fz 2
    have l22_2 := F52.out.2.2.1.lt
    have a22_2_0 := F52.out.2.2.1.cell 0 _ rfl
    have f22_2_0 := F52.out.2.2.1.fz 0
    have a22_2_1 := F52.out.2.2.1.cell 1 _ rfl
    have f22_2_1 := F52.out.2.2.1.fz 1
    have a22_2_2 := F52.out.2.2.1.cell 2 _ rfl
    have f22_2_2 := F52.out.2.2.1.fz 2
    have l22_3 := F52.out.2.2.2.1.lt
    have a22_3_0 := F52.out.2.2.2.1.cell 0 _ rfl
    have f22_3_0 := F52.out.2.2.2.1.fz 0
    have a22_3_1 := F52.out.2.2.2.1.cell 1 _ rfl
    have f22_3_1 := F52.out.2.2.2.1.fz 1
    have a22_3_2 := F52.out.2.2.2.1.cell 2 _ rfl
    have f22_3_2 := F52.out.2.2.2.1.fz 2
    have ne22_0_1 : ¬ w.heap.size = w2.heap.size := by omega
    have ne22_0_2 : ¬ w.heap.size = w21.heap.size := by omega
    have ne22_0_3 : ¬ w.heap.size = w21.heap.size + 1 := by omega
    have ne22_1_0 : ¬ w2.heap.size = w.heap.size := by omega
    have ne22_1_2 : ¬ w2.heap.size = w21.heap.size := by omega
    have ne22_1_3 : ¬ w2.heap.size = w21.heap.size + 1 := by omega
    have ne22_2_0 : ¬ w21.heap.size = w.heap.size := by omega
    have ne22_2_1 : ¬ w21.heap.size = w2.heap.size := by omega
    have ne22_2_3 : ¬ w21.heap.size = w21.heap.size + 1 := by omega
    have ne22_3_0 : ¬ w21.heap.size + 1 = w.heap.size := by omega
    have ne22_3_1 : ¬ w21.heap.size + 1 = w2.heap.size := by omega
    have ne22_3_2 : ¬ w21.heap.size + 1 = w21.heap.size := by omega
    go_wp2
    refine bodyPost_ret (v := .agg #[.string a1, .int .i64 a2, .bool false]) (by simp [results, Tryz.results10, go_sem, World.cell?_setCell_same, World.cell?_setCell_other, *]) rfl ⟨rfl, ?_⟩
    repeat (first | refine Below.setCell ?_ (by first | exact Nat.le_refl _ | (dsimp only; omega)) _ | refine Below.alloc ?_ (by first | exact Nat.le_refl _ | omega | (simp; omega)) _ | refine Below.drew ?_)
    exact F52.out.2.2.2.2
theorem rs_ft {b z : Int} {u a1 c1 : ByteArray} {o a2 c2 : Int} {M : Nat} {dn up : Nat → Dp} (m1 : 1 ≤ M) (m17 : M ≤ 17) (HE : ∀ W, Calls Tryz.prog 21 #[.int .u64 b, .int .i64 z] W fun e w' => e = .returned (.tuple #[.agg #[.string u, .int .i64 o, .bool false], .int .i64 0]) ∧ Below W.heap.size W w') (HN : ∀ j : Nat, 1 ≤ j → j < M → ∀ W, Calls Tryz.prog 22 #[.int .u64 b, .int .i64 z, .int .i64 (j : Int)] W fun e w' => e = .returned (.tuple #[.agg #[.string (dn j).1, .int .i64 (dn j).2, .bool false], .bool false, .agg #[.string (up j).1, .int .i64 (up j).2, .bool false], .bool false]) ∧ Below W.heap.size W w') (HK : ∀ W, Calls Tryz.prog 22 #[.int .u64 b, .int .i64 z, .int .i64 (M : Int)] W fun e w' => e = .returned (.tuple #[.agg #[.string a1, .int .i64 a2, .bool false], .bool false, .agg #[.string c1, .int .i64 c2, .bool false], .bool true]) ∧ Below W.heap.size W w') (w : World) :
 Calls Tryz.prog 10 #[.int .u64 b, .int .i64 z] w fun x w' => x = .returned (.agg #[.string c1, .int .i64 c2, .bool false]) ∧ Below w.heap.size w w' := by
 have F0 : Hid (Bk (w.alloc (.cells #[.string ⟨#[]⟩, .int .i64 0, .bool false] 24)) (w.heap.size) [.string ⟨#[]⟩, .int .i64 0, .bool false] ∧ Below w.heap.size w (w.alloc (.cells #[.string ⟨#[]⟩, .int .i64 0, .bool false] 24))) := ⟨Bk.newL w [.string ⟨#[]⟩, .int .i64 0, .bool false] 24, ((Below.refl w.heap.size w)).alloc (Nat.le_refl _) _⟩
 go_enter Tryz.func10, Tryz.ntmps10
 go_upto_region 1 with fail
 generalize (w.alloc (.cells #[.string ⟨#[]⟩, .int .i64 0, .bool false] 24)) = w1 at *
 go_wp2_with fail
 all_goals first | (exfalso; omega) | skip
 refine (HE _).mono ?_
 rintro o2 w2 ⟨rfl, bb⟩
 have F1 : Hid (Bk w2 (w.heap.size) [.string ⟨#[]⟩, .int .i64 0, .bool false] ∧ Below w.heap.size w w2) := ⟨(F0.out.1).step bb, (F0.out.2).trans (bb.mono (F0.out.2).size)⟩
 clear F0
 clear bb
 have lt0_1 := (F1.out.1).lt
 have le1 := (F1.out.2).size
 have F2 : Hid (Bk (w2.alloc (.cells #[.string u, .int .i64 o, .bool false] 24)) (w.heap.size) [.string ⟨#[]⟩, .int .i64 0, .bool false] ∧ Bk (w2.alloc (.cells #[.string u, .int .i64 o, .bool false] 24)) (w2.heap.size) [.string u, .int .i64 o, .bool false] ∧ Below w.heap.size w (w2.alloc (.cells #[.string u, .int .i64 o, .bool false] 24))) := ⟨(F1.out.1).step ((Below.refl _ _).alloc (Nat.le_refl _) _), Bk.newL w2 [.string u, .int .i64 o, .bool false] 24, (F1.out.2).alloc ((F1.out.2).size) _⟩
 clear F1
 go_upto_region 2 with fail
 generalize (w2.alloc (.cells #[.string u, .int .i64 o, .bool false] 24)) = w3 at *
 have l1_0 := F2.out.1.lt
 have a1_0_0 := F2.out.1.cell 0 _ rfl
 have f1_0_0 := F2.out.1.fz 0
 have a1_0_1 := F2.out.1.cell 1 _ rfl
 have f1_0_1 := F2.out.1.fz 1
 have a1_0_2 := F2.out.1.cell 2 _ rfl
 have f1_0_2 := F2.out.1.fz 2
 have l1_1 := F2.out.2.1.lt
 have a1_1_0 := F2.out.2.1.cell 0 _ rfl
 have f1_1_0 := F2.out.2.1.fz 0
 have a1_1_1 := F2.out.2.1.cell 1 _ rfl
 have f1_1_1 := F2.out.2.1.fz 1
 have a1_1_2 := F2.out.2.1.cell 2 _ rfl
 have f1_1_2 := F2.out.2.1.fz 2
 have ne1_0_1 : ¬ w.heap.size = w2.heap.size := by omega
 have ne1_1_0 : ¬ w2.heap.size = w.heap.size := by omega
 go_wp2
 have IB : Hid (Bk w3 (w.heap.size) [.string ⟨#[]⟩, .int .i64 0, .bool false] ∧ Bk w3 (w2.heap.size) [.string u, .int .i64 o, .bool false] ∧ Below w.heap.size w w3) := F2.out
 clear l1_0 a1_0_0 f1_0_0 a1_0_1 f1_0_1 a1_0_2 f1_0_2 l1_1 a1_1_0 f1_1_0 a1_1_1 f1_1_1 a1_1_2 f1_1_2
 go_loopw [7] (fun nv wr => ∃ j : Nat, nv = .int .i64 (j : Int) ∧ 1 ≤ j ∧ j ≤ M ∧ Hid (Bk wr (w.heap.size) [.string ⟨#[]⟩, .int .i64 0, .bool false] ∧ Bk wr (w2.heap.size) [.string u, .int .i64 o, .bool false] ∧ Below w.heap.size w wr)) (fun nv _ => 20 - (intOf nv).toNat)
 case atStart => exact ⟨1, rfl, by omega, m1, IB⟩
 case round =>
  obtain ⟨j, rfl, j1, jN, HB⟩ := hrel
  clear IB F2
  have F50 := HB
  clear HB
  have j17 : j ≤ 17 := by omega
  by_cases c : j < M
  · have HJ := HN j j1 c
    have l21_0 := F50.out.1.lt
    have a21_0_0 := F50.out.1.cell 0 _ rfl
    have f21_0_0 := F50.out.1.fz 0
    have a21_0_1 := F50.out.1.cell 1 _ rfl
    have f21_0_1 := F50.out.1.fz 1
    have a21_0_2 := F50.out.1.cell 2 _ rfl
    have f21_0_2 := F50.out.1.fz 2
    have l21_1 := F50.out.2.1.lt
    have a21_1_0 := F50.out.2.1.cell 0 _ rfl
    have f21_1_0 := F50.out.2.1.fz 0
    have a21_1_1 := F50.out.2.1.cell 1 _ rfl
    have f21_1_1 := F50.out.2.1.fz 1
    have a21_1_2 := F50.out.2.1.cell 2 _ rfl
    have f21_1_2 := F50.out.2.1.fz 2
    have ne21_0_1 : ¬ w.heap.size = w2.heap.size := by omega
    have ne21_1_0 : ¬ w2.heap.size = w.heap.size := by omega
    go_wp2_with fail
    refine (HJ _).mono ?_
    rintro o21 w21 ⟨rfl, bb⟩
    have F51 : Hid (Bk w21 (w.heap.size) [.string ⟨#[]⟩, .int .i64 0, .bool false] ∧ Bk w21 (w2.heap.size) [.string u, .int .i64 o, .bool false] ∧ Below w.heap.size w w21) := ⟨(F50.out.1).step bb, (F50.out.2.1).step bb, (F50.out.2.2).trans (bb.mono (F50.out.2.2).size)⟩
    clear F50
    clear bb
    clear l21_0 a21_0_0 f21_0_0 a21_0_1 f21_0_1 a21_0_2 f21_0_2 l21_1 a21_1_0 f21_1_0 a21_1_1 f21_1_1 a21_1_2 f21_1_2
    have lt0_2 := (F51.out.1).lt
    have lt1_2 := (F51.out.2.1).lt
    have le2 := (F51.out.2.2).size
    have F52 : Hid (Bk ((w21.alloc (.cells #[.string (dn j).1, .int .i64 (dn j).2, .bool false] 24)).alloc (.cells #[.string (up j).1, .int .i64 (up j).2, .bool false] 24)) (w.heap.size) [.string ⟨#[]⟩, .int .i64 0, .bool false] ∧ Bk ((w21.alloc (.cells #[.string (dn j).1, .int .i64 (dn j).2, .bool false] 24)).alloc (.cells #[.string (up j).1, .int .i64 (up j).2, .bool false] 24)) (w2.heap.size) [.string u, .int .i64 o, .bool false] ∧ Bk ((w21.alloc (.cells #[.string (dn j).1, .int .i64 (dn j).2, .bool false] 24)).alloc (.cells #[.string (up j).1, .int .i64 (up j).2, .bool false] 24)) (w21.heap.size) [.string (dn j).1, .int .i64 (dn j).2, .bool false] ∧ Bk ((w21.alloc (.cells #[.string (dn j).1, .int .i64 (dn j).2, .bool false] 24)).alloc (.cells #[.string (up j).1, .int .i64 (up j).2, .bool false] 24)) (w21.heap.size + 1) [.string (up j).1, .int .i64 (up j).2, .bool false] ∧ Below w.heap.size w ((w21.alloc (.cells #[.string (dn j).1, .int .i64 (dn j).2, .bool false] 24)).alloc (.cells #[.string (up j).1, .int .i64 (up j).2, .bool false] 24))) := ⟨((F51.out.1).step ((Below.refl _ _).alloc (Nat.le_refl _) _)).step ((Below.refl _ _).alloc (Nat.le_refl _) _), ((F51.out.2.1).step ((Below.refl _ _).alloc (Nat.le_refl _) _)).step ((Below.refl _ _).alloc (Nat.le_refl _) _), (Bk.newL w21 [.string (dn j).1, .int .i64 (dn j).2, .bool false] 24).step ((Below.refl _ _).alloc (Nat.le_refl _) _), ((by have q := Bk.newL (w21.alloc (.cells #[.string (dn j).1, .int .i64 (dn j).2, .bool false] 24)) [.string (up j).1, .int .i64 (up j).2, .bool false] 24; simpa using q) : Bk ((w21.alloc (.cells #[.string (dn j).1, .int .i64 (dn j).2, .bool false] 24)).alloc (.cells #[.string (up j).1, .int .i64 (up j).2, .bool false] 24)) (w21.heap.size + 1) [.string (up j).1, .int .i64 (up j).2, .bool false]), ((F51.out.2.2).alloc ((F51.out.2.2).size) _).alloc (((F51.out.2.2).alloc ((F51.out.2.2).size) _).size) _⟩
    clear F51
    go_upto_region 6 with fail
    generalize ((w21.alloc (.cells #[.string (dn j).1, .int .i64 (dn j).2, .bool false] 24)).alloc (.cells #[.string (up j).1, .int .i64 (up j).2, .bool false] 24)) = w22 at *
    have l22_0 := F52.out.1.lt
    have a22_0_0 := F52.out.1.cell 0 _ rfl
    have f22_0_0 := F52.out.1.fz 0
    have a22_0_1 := F52.out.1.cell 1 _ rfl
    have f22_0_1 := F52.out.1.fz 1
    have a22_0_2 := F52.out.1.cell 2 _ rfl
    have f22_0_2 := F52.out.1.fz 2
    have l22_1 := F52.out.2.1.lt
    have a22_1_0 := F52.out.2.1.cell 0 _ rfl
    have f22_1_0 := F52.out.2.1.fz 0
    have a22_1_1 := F52.out.2.1.cell 1 _ rfl
    have f22_1_1 := F52.out.2.1.fz 1
    have a22_1_2 := F52.out.2.1.cell 2 _ rfl
    have f22_1_2 := F52.out.2.1.fz 2
    have l22_2 := F52.out.2.2.1.lt
    have a22_2_0 := F52.out.2.2.1.cell 0 _ rfl
    have f22_2_0 := F52.out.2.2.1.fz 0
    have a22_2_1 := F52.out.2.2.1.cell 1 _ rfl
    have f22_2_1 := F52.out.2.2.1.fz 1
    have a22_2_2 := F52.out.2.2.1.cell 2 _ rfl
    have f22_2_2 := F52.out.2.2.1.fz 2
    have l22_3 := F52.out.2.2.2.1.lt
    have a22_3_0 := F52.out.2.2.2.1.cell 0 _ rfl
    have f22_3_0 := F52.out.2.2.2.1.fz 0
    have a22_3_1 := F52.out.2.2.2.1.cell 1 _ rfl
    have f22_3_1 := F52.out.2.2.2.1.fz 1
    have a22_3_2 := F52.out.2.2.2.1.cell 2 _ rfl
    have f22_3_2 := F52.out.2.2.2.1.fz 2
    have ne22_0_1 : ¬ w.heap.size = w2.heap.size := by omega
    have ne22_0_2 : ¬ w.heap.size = w21.heap.size := by omega
    have ne22_0_3 : ¬ w.heap.size = w21.heap.size + 1 := by omega
    have ne22_1_0 : ¬ w2.heap.size = w.heap.size := by omega
    have ne22_1_2 : ¬ w2.heap.size = w21.heap.size := by omega
    have ne22_1_3 : ¬ w2.heap.size = w21.heap.size + 1 := by omega
    have ne22_2_0 : ¬ w21.heap.size = w.heap.size := by omega
    have ne22_2_1 : ¬ w21.heap.size = w2.heap.size := by omega
    have ne22_2_3 : ¬ w21.heap.size = w21.heap.size + 1 := by omega
    have ne22_3_0 : ¬ w21.heap.size + 1 = w.heap.size := by omega
    have ne22_3_1 : ¬ w21.heap.size + 1 = w2.heap.size := by omega
    have ne22_3_2 : ¬ w21.heap.size + 1 = w21.heap.size := by omega
    go_wp2
    go_roundw
    case rel => exact ⟨j + 1, by first | rfl | go_num, by omega, by omega, ⟨F52.out.1, F52.out.2.1, F52.out.2.2.2.2⟩⟩
    case measure => simp [intOf]; omega
  · obtain rfl : j = M := by omega
    have l21_0 := F50.out.1.lt
    have a21_0_0 := F50.out.1.cell 0 _ rfl
    have f21_0_0 := F50.out.1.fz 0
    have a21_0_1 := F50.out.1.cell 1 _ rfl
    have f21_0_1 := F50.out.1.fz 1
    have a21_0_2 := F50.out.1.cell 2 _ rfl
    have f21_0_2 := F50.out.1.fz 2
    have l21_1 := F50.out.2.1.lt
    have a21_1_0 := F50.out.2.1.cell 0 _ rfl
    have f21_1_0 := F50.out.2.1.fz 0
    have a21_1_1 := F50.out.2.1.cell 1 _ rfl
    have f21_1_1 := F50.out.2.1.fz 1
    have a21_1_2 := F50.out.2.1.cell 2 _ rfl
    have f21_1_2 := F50.out.2.1.fz 2
    have ne21_0_1 : ¬ w.heap.size = w2.heap.size := by omega
    have ne21_1_0 : ¬ w2.heap.size = w.heap.size := by omega
    go_wp2_with fail
    refine (HK _).mono ?_
    rintro o21 w21 ⟨rfl, bb⟩
    have F51 : Hid (Bk w21 (w.heap.size) [.string ⟨#[]⟩, .int .i64 0, .bool false] ∧ Bk w21 (w2.heap.size) [.string u, .int .i64 o, .bool false] ∧ Below w.heap.size w w21) := ⟨(F50.out.1).step bb, (F50.out.2.1).step bb, (F50.out.2.2).trans (bb.mono (F50.out.2.2).size)⟩
    clear F50
    clear bb
    clear l21_0 a21_0_0 f21_0_0 a21_0_1 f21_0_1 a21_0_2 f21_0_2 l21_1 a21_1_0 f21_1_0 a21_1_1 f21_1_1 a21_1_2 f21_1_2
    have lt0_2 := (F51.out.1).lt
    have lt1_2 := (F51.out.2.1).lt
    have le2 := (F51.out.2.2).size
    have F52 : Hid (Bk ((w21.alloc (.cells #[.string a1, .int .i64 a2, .bool false] 24)).alloc (.cells #[.string c1, .int .i64 c2, .bool false] 24)) (w.heap.size) [.string ⟨#[]⟩, .int .i64 0, .bool false] ∧ Bk ((w21.alloc (.cells #[.string a1, .int .i64 a2, .bool false] 24)).alloc (.cells #[.string c1, .int .i64 c2, .bool false] 24)) (w2.heap.size) [.string u, .int .i64 o, .bool false] ∧ Bk ((w21.alloc (.cells #[.string a1, .int .i64 a2, .bool false] 24)).alloc (.cells #[.string c1, .int .i64 c2, .bool false] 24)) (w21.heap.size) [.string a1, .int .i64 a2, .bool false] ∧ Bk ((w21.alloc (.cells #[.string a1, .int .i64 a2, .bool false] 24)).alloc (.cells #[.string c1, .int .i64 c2, .bool false] 24)) (w21.heap.size + 1) [.string c1, .int .i64 c2, .bool false] ∧ Below w.heap.size w ((w21.alloc (.cells #[.string a1, .int .i64 a2, .bool false] 24)).alloc (.cells #[.string c1, .int .i64 c2, .bool false] 24))) := ⟨((F51.out.1).step ((Below.refl _ _).alloc (Nat.le_refl _) _)).step ((Below.refl _ _).alloc (Nat.le_refl _) _), ((F51.out.2.1).step ((Below.refl _ _).alloc (Nat.le_refl _) _)).step ((Below.refl _ _).alloc (Nat.le_refl _) _), (Bk.newL w21 [.string a1, .int .i64 a2, .bool false] 24).step ((Below.refl _ _).alloc (Nat.le_refl _) _), ((by have q := Bk.newL (w21.alloc (.cells #[.string a1, .int .i64 a2, .bool false] 24)) [.string c1, .int .i64 c2, .bool false] 24; simpa using q) : Bk ((w21.alloc (.cells #[.string a1, .int .i64 a2, .bool false] 24)).alloc (.cells #[.string c1, .int .i64 c2, .bool false] 24)) (w21.heap.size + 1) [.string c1, .int .i64 c2, .bool false]), ((F51.out.2.2).alloc ((F51.out.2.2).size) _).alloc (((F51.out.2.2).alloc ((F51.out.2.2).size) _).size) _⟩
    clear F51
    go_upto_region 6 with fail
    generalize ((w21.alloc (.cells #[.string a1, .int .i64 a2, .bool false] 24)).alloc (.cells #[.string c1, .int .i64 c2, .bool false] 24)) = w22 at *
    have l22_0 := F52.out.1.lt
    have a22_0_0 := F52.out.1.cell 0 _ rfl
    have f22_0_0 := F52.out.1.fz 0
    have a22_0_1 := F52.out.1.cell 1 _ rfl
    have f22_0_1 := F52.out.1.fz 1
    have a22_0_2 := F52.out.1.cell 2 _ rfl
    have f22_0_2 := F52.out.1.fz 2
    have l22_1 := F52.out.2.1.lt
    have a22_1_0 := F52.out.2.1.cell 0 _ rfl
    have f22_1_0 := F52.out.2.1.fz 0
    have a22_1_1 := F52.out.2.1.cell 1 _ rfl
    have f22_1_1 := F52.out.2.1.fz 1
    have a22_1_2 := F52.out.2.1.cell 2 _ rfl
    have f22_1_2 := F52.out.2.1.fz 2
    have l22_2 := F52.out.2.2.1.lt
    have a22_2_0 := F52.out.2.2.1.cell 0 _ rfl
    have f22_2_0 := F52.out.2.2.1.fz 0
    have a22_2_1 := F52.out.2.2.1.cell 1 _ rfl
    have f22_2_1 := F52.out.2.2.1.fz 1
    have a22_2_2 := F52.out.2.2.1.cell 2 _ rfl
    have f22_2_2 := F52.out.2.2.1.fz 2
    have l22_3 := F52.out.2.2.2.1.lt
    have a22_3_0 := F52.out.2.2.2.1.cell 0 _ rfl
    have f22_3_0 := F52.out.2.2.2.1.fz 0
    have a22_3_1 := F52.out.2.2.2.1.cell 1 _ rfl
    have f22_3_1 := F52.out.2.2.2.1.fz 1
    have a22_3_2 := F52.out.2.2.2.1.cell 2 _ rfl
    have f22_3_2 := F52.out.2.2.2.1.fz 2
    have ne22_0_1 : ¬ w.heap.size = w2.heap.size := by omega
    have ne22_0_2 : ¬ w.heap.size = w21.heap.size := by omega
    have ne22_0_3 : ¬ w.heap.size = w21.heap.size + 1 := by omega
    have ne22_1_0 : ¬ w2.heap.size = w.heap.size := by omega
    have ne22_1_2 : ¬ w2.heap.size = w21.heap.size := by omega
    have ne22_1_3 : ¬ w2.heap.size = w21.heap.size + 1 := by omega
    have ne22_2_0 : ¬ w21.heap.size = w.heap.size := by omega
    have ne22_2_1 : ¬ w21.heap.size = w2.heap.size := by omega
    have ne22_2_3 : ¬ w21.heap.size = w21.heap.size + 1 := by omega
    have ne22_3_0 : ¬ w21.heap.size + 1 = w.heap.size := by omega
    have ne22_3_1 : ¬ w21.heap.size + 1 = w2.heap.size := by omega
    have ne22_3_2 : ¬ w21.heap.size + 1 = w21.heap.size := by omega
    go_wp2
    refine bodyPost_ret (v := .agg #[.string c1, .int .i64 c2, .bool false]) (by simp [results, Tryz.results10, go_sem, World.cell?_setCell_same, World.cell?_setCell_other, *]) rfl ⟨rfl, ?_⟩
    repeat (first | refine Below.setCell ?_ (by first | exact Nat.le_refl _ | (dsimp only; omega)) _ | refine Below.alloc ?_ (by first | exact Nat.le_refl _ | omega | (simp; omega)) _ | refine Below.drew ?_)
    exact F52.out.2.2.2.2
theorem pwT_add (a b : Nat) : pwT (a + b) = pwT a * pwT b := Nat.pow_add 10 a b
theorem pwT_lt {a b : Nat} (h : pwT a < pwT b) : a < b := (Nat.pow_lt_pow_iff_right (by decide)).1 h
theorem dx_near {m : Nat} {e : Int} (hm : m ≤ 18014398509481984) (h1 : -1075 ≤ e) (h2 : e ≤ 971) {s : ByteArray} {p : Int} (D : Dx s p (fv m e)) (h0 : 0 < s.size) : p ≤ 1000 := by
 obtain ⟨k, j, h, he⟩ : ∃ k j, Kj m k j ∧ e = (j : Int) - (k : Int) := by
  rcases Int.lt_or_le e 0 with c | c
  · exact ⟨(-e).toNat, 0, ⟨hm, by omega, by omega, Or.inr rfl⟩, by omega⟩
  · exact ⟨0, e.toNat, ⟨hm, by omega, by omega, Or.inl rfl⟩, by omega⟩
 have w := h.wh
 have f := h.fv he
 obtain ⟨d0, d1, _⟩ := D.some h0
 have a : fv m e < pwT 800 * pwT (R0 - k) := by
  rw [f]
  exact Nat.mul_lt_mul_of_pos_right w (Nat.pow_pos (by decide))
 obtain ⟨e8, h8⟩ : ∃ e8, e8 = 800 := ⟨_, rfl⟩
 rw [← h8, ← pwT_add] at a
 have b : pwT (p + (R0 : Int) - 1).toNat < pwT (e8 + (R0 - k)) := Nat.lt_of_le_of_lt d1 a
 have := pwT_lt b
 omega
theorem cands {u : ByteArray} {o : Int} {X A : Nat} (G : Dx u o X) (u0 : 0 < u.size) (o1 : o ≤ 1000) (hA : o + (R0 : Int) = (A : Int)) :
 ∃ d1 d2 : Nat → Dp, ∀ n, 1 ≤ n → n ≤ 17 → (d1 n).2 = o ∧ Du u o n (d1 n).1 (d2 n).1 (d2 n).2 ∧ Dx (d1 n).1 o (dnU X (10 ^ (A - n))) ∧ Dx (d2 n).1 (d2 n).2 (upU X (10 ^ (A - n))) := by
 have H : ∀ n, ∃ d : Dp × Dp, 1 ≤ n → n ≤ 17 → d.1.2 = o ∧ Du u o n d.1.1 d.2.1 d.2.2 ∧ Dx d.1.1 o (dnU X (10 ^ (A - n))) ∧ Dx d.2.1 d.2.2 (upU X (10 ^ (A - n))) := by
  intro n
  by_cases c : 1 ≤ n ∧ n ≤ 17
  · obtain ⟨s1, s2, p2, D1, D2, du⟩ := du_ex G u0 o1 hA (n := n) (by omega) c.2
    exact ⟨((s1, o), (s2, p2)), fun _ _ => ⟨rfl, du, D1, D2⟩⟩
  · exact ⟨((u, o), (u, o)), fun a b => absurd ⟨a, b⟩ c⟩
 obtain ⟨f, hf⟩ := Classical.axiomOfChoice H
 exact ⟨fun n => (f n).1, fun n => (f n).2, fun n a b => hf n a b⟩
def rC (u : ByteArray) (d1 d2 : Nat → Dp) (n : Nat) : Dp := if n < u.size ∧ upB u false n = true then d2 n else d1 n
theorem rn_is {u : ByteArray} {o : Int} {X A : Nat} (G : Dx u o X) (u0 : 0 < u.size) (hA : o + (R0 : Int) = (A : Int)) {n : Nat} (n0 : 1 ≤ n) : (n < u.size ∧ upB u false n = true) ↔ rnB X (10 ^ (A - n)) = true := by
 have S0 : 0 < 10 ^ (A - n) := Nat.pow_pos (by decide)
 unfold rnB
 rw [decide_eq_true_eq]
 by_cases c : n < u.size
 · rw [← up_num G u0 hA n0 c]
   exact ⟨fun h => h.2, fun h => ⟨c, h⟩⟩
 · have mz : X % 10 ^ (A - n) = 0 := by
    have lo := G.lo
    have vl := G.vl
    rw [hA] at vl lo
    rw [← vl, show ((A : Int) - (u.size : Int)).toNat = (A - u.size - (A - n)) + (A - n) by omega, Nat.pow_add, ← Nat.mul_assoc, Nat.mul_mod_left]
   rw [mz]
   constructor
   · intro h; exact absurd h.1 c
   · intro h; omega
structure Fl (z : Int) (f T : Nat) (L : Int) (S I b : Nat) (u : ByteArray) (o : Int) (s : ByteArray) (p : Int) (t : ByteArray) (q : Int) (A : Nat) (d1 d2 : Nat → Dp) : Prop where
 fn : Fn z f T L S I b
 m0 : mg S b ≠ 0
 g : Dx u o (vlF f L (mg S b))
 d : Dx s p (loF f L (mg S b))
 e : Dx t q (hiF f L (mg S b))
 o1 : o ≤ 1000
 hA : o + (R0 : Int) = (A : Int)
 c : ∀ n, 1 ≤ n → n ≤ 17 → (d1 n).2 = o ∧ Du u o n (d1 n).1 (d2 n).1 (d2 n).2 ∧ Dx (d1 n).1 o (dnU (vlF f L (mg S b)) (10 ^ (A - n))) ∧ Dx (d2 n).1 (d2 n).2 (upU (vlF f L (mg S b)) (10 ^ (A - n)))
theorem fl_ex {z : Int} {f T : Nat} {L : Int} {S I b : Nat} (h : Fn z f T L S I b) (m0 : mg S b ≠ 0) : ∃ u o s p t q A d1 d2, Fl z f T L S I b u o s p t q A d1 d2 := by
 obtain ⟨⟨s, p, D⟩, ⟨t, q, E⟩, u, o, G⟩ := Fn.has h
 have fs := h.sf.fs.1
 have u0 := G.pos.2 (vl_pos (f := f) L m0)
 have x := xp_in fs h.m
 have m := mt_lt fs (mg S b)
 have o1 := dx_near (by omega) (by omega) (by omega) G u0
 have lo := G.lo
 obtain ⟨A, hA⟩ : ∃ A : Nat, o + (R0 : Int) = (A : Int) := ⟨(o + (R0 : Int)).toNat, by omega⟩
 obtain ⟨d1, d2, hc⟩ := cands G u0 o1 hA
 exact ⟨u, o, s, p, t, q, A, d1, d2, h, m0, G, D, E, o1, hA, hc⟩
theorem Fl.pos {z : Int} {f T : Nat} {L : Int} {S I b : Nat} {u : ByteArray} {o : Int} {s : ByteArray} {p : Int} {t : ByteArray} {q : Int} {A : Nat} {d1 d2 : Nat → Dp} (h : Fl z f T L S I b u o s p t q A d1 d2) : 0 < u.size := h.g.pos.2 (vl_pos (f := f) L h.m0)
theorem Fl.rm {z : Int} {f T : Nat} {L : Int} {S I b : Nat} {u : ByteArray} {o : Int} {s : ByteArray} {p : Int} {t : ByteArray} {q : Int} {A : Nat} {d1 d2 : Nat → Dp} (h : Fl z f T L S I b u o s p t q A d1 d2) : Rm (loF f L (mg S b)) (vlF f L (mg S b)) (hiF f L (mg S b)) := vl_rm h.fn.sf.fs.1 h.fn.m h.m0
theorem Fl.hd {z : Int} {f T : Nat} {L : Int} {S I b : Nat} {u : ByteArray} {o : Int} {s : ByteArray} {p : Int} {t : ByteArray} {q : Int} {A : Nat} {d1 d2 : Nat → Dp} (h : Fl z f T L S I b u o s p t q A d1 d2) {c : Bool} {v : ByteArray} {k : Int} {Z : Nat} (D : Dx v k Z) : hdB c s p t q (v, k) = hitB c (loF f L (mg S b)) (hiF f L (mg S b)) Z := by
 unfold hdB hitB
 rw [dx_low D h.d, dx_low D h.e]
theorem ten_pos (n : Nat) : 0 < 10 ^ n := Nat.pow_pos (by decide)
theorem Fl.rc {z : Int} {f T : Nat} {L : Int} {S I b : Nat} {u : ByteArray} {o : Int} {s : ByteArray} {p : Int} {t : ByteArray} {q : Int} {A : Nat} {d1 d2 : Nat → Dp} (h : Fl z f T L S I b u o s p t q A d1 d2) {n : Nat} (n0 : 1 ≤ n) (n1 : n ≤ 17) : Dx (rC u d1 d2 n).1 (rC u d1 d2 n).2 (rnU (vlF f L (mg S b)) (10 ^ (A - n))) := by
 obtain ⟨c1, _, c3, c4⟩ := h.c n n0 n1
 have e := rn_is h.g h.pos h.hA n0
 unfold rC rnU
 by_cases q : n < u.size ∧ upB u false n = true
 · rw [if_pos q, if_pos (e.1 q)]; exact c4
 · rw [if_neg q, if_neg (fun g => q (e.2 g)), c1]; exact c3
def fD (c : Bool) (s : ByteArray) (p : Int) (t : ByteArray) (q : Int) (u : ByteArray) (d1 d2 : Nat → Dp) (n : Nat) : Option Dp := [rC u d1 d2 n, d2 n].find? (hdB c s p t q)
theorem fD_is (c : Bool) (s : ByteArray) (p : Int) (t : ByteArray) (q : Int) (u : ByteArray) (d1 d2 : Nat → Dp) (n : Nat) : fD c s p t q u d1 d2 n = if hdB c s p t q (rC u d1 d2 n) then some (rC u d1 d2 n) else if hdB c s p t q (d2 n) then some (d2 n) else none := by
 unfold fD
 rw [List.find?_cons, List.find?_cons, List.find?_nil]
 cases hdB c s p t q (rC u d1 d2 n) <;> cases hdB c s p t q (d2 n) <;> rfl
theorem Fl.pick {z : Int} {f T : Nat} {L : Int} {S I b : Nat} {u : ByteArray} {o : Int} {s : ByteArray} {p : Int} {t : ByteArray} {q : Int} {A : Nat} {d1 d2 : Nat → Dp} (h : Fl z f T L S I b u o s p t q A d1 d2) (c : Bool) {n : Nat} (n0 : 1 ≤ n) (n1 : n ≤ 17) :
    (fD c s p t q u d1 d2 n = none ∧ pickU c (loF f L (mg S b)) (hiF f L (mg S b)) (vlF f L (mg S b)) (10 ^ (A - n)) = none) ∨
    ∃ d Z, fD c s p t q u d1 d2 n = some d ∧ pickU c (loF f L (mg S b)) (hiF f L (mg S b)) (vlF f L (mg S b)) (10 ^ (A - n)) = some Z ∧ Dx d.1 d.2 Z ∧ hdB c s p t q d = true ∧ (d = d1 n ∨ d = d2 n) := by
  have R := h.rc n0 n1
  obtain ⟨c1, _, c3, c4⟩ := h.c n n0 n1
  have e1 := h.hd (c := c) R
  have e2 := h.hd (c := c) c4
  rw [fD_is]
  unfold pickU
  rw [← e1, ← e2]
  have way : rC u d1 d2 n = d1 n ∨ rC u d1 d2 n = d2 n := by
    unfold rC
    split
    · exact Or.inr rfl
    · exact Or.inl rfl
  cases a : hdB c s p t q (rC u d1 d2 n) with
  | true => exact Or.inr ⟨_, _, rfl, rfl, R, a, way⟩
  | false =>
    cases b : hdB c s p t q (d2 n) with
    | true => exact Or.inr ⟨_, _, rfl, rfl, c4, b, Or.inr rfl⟩
    | false => exact Or.inl ⟨rfl, rfl⟩
theorem Fl.doc {z : Int} {f T : Nat} {L : Int} {S I b : Nat} {u : ByteArray} {o : Int} {s : ByteArray} {p : Int} {t : ByteArray} {q : Int} {A : Nat} {d1 d2 : Nat → Dp} (h : Fl z f T L S I b u o s p t q A d1 d2) (c : Bool) {n : Nat} (n0 : 1 ≤ n) (n1 : n ≤ 17) :
    fD c s p t q u d1 d2 n = if hdB c s p t q (d1 n) then (if hdB c s p t q (d2 n) then some (rC u d1 d2 n) else some (d1 n)) else if hdB c s p t q (d2 n) then some (d2 n) else none := by
  obtain ⟨c1, _, c3, c4⟩ := h.c n n0 n1
  have e2 := h.hd (c := c) c4
  have e1 : hdB c s p t q (d1 n) = hitB c (loF f L (mg S b)) (hiF f L (mg S b)) (dnU (vlF f L (mg S b)) (10 ^ (A - n))) := by
    have k := h.hd (c := c) c3
    rw [← c1] at k
    exact k
  have e := rn_is h.g h.pos h.hA n0
  rw [fD_is]
  unfold rC
  by_cases w : n < u.size ∧ upB u false n = true
  · rw [if_pos w]
    cases y : hdB c s p t q (d2 n) with
    | true => cases hdB c s p t q (d1 n) <;> rfl
    | false =>
      cases x : hdB c s p t q (d1 n) with
      | false => rfl
      | true =>
        exfalso
        rw [x] at e1
        rw [near_up h.rm (ten_pos _) (e.1 w) e1.symm] at e2
        rw [e2] at y
        cases y
  · rw [if_neg w]
    cases hdB c s p t q (d1 n) <;> cases hdB c s p t q (d2 n) <;> rfl
theorem Fl.none_iff {z : Int} {f T : Nat} {L : Int} {S I b : Nat} {u : ByteArray} {o : Int} {s : ByteArray} {p : Int} {t : ByteArray} {q : Int} {A : Nat} {d1 d2 : Nat → Dp} (h : Fl z f T L S I b u o s p t q A d1 d2) (c : Bool) {n : Nat} (n0 : 1 ≤ n) (n1 : n ≤ 17) : fD c s p t q u d1 d2 n = none ↔ anyB c (loF f L (mg S b)) (hiF f L (mg S b)) (vlF f L (mg S b)) (10 ^ (A - n)) = false := by
 rw [← pick_none h.rm (ten_pos _)]
 rcases h.pick c n0 n1 with ⟨a, b⟩ | ⟨d, Z, a, b, _⟩
 · exact ⟨fun _ => b, fun _ => a⟩
 · rw [a, b]
   exact ⟨fun k => (by cases k), fun k => (by cases k)⟩
theorem Fl.there {z : Int} {f T : Nat} {L : Int} {S I b : Nat} {u : ByteArray} {o : Int} {s : ByteArray} {p : Int} {t : ByteArray} {q : Int} {A : Nat} {d1 d2 : Nat → Dp} (h : Fl z f T L S I b u o s p t q A d1 d2) (c : Bool) {N : Nat} (hN : 2 ^ (f + 1) ≤ 10 ^ (N - 1)) (N0 : 1 ≤ N) (N1 : N ≤ 17) : ∃ d, fD c s p t q u d1 d2 N = some d := by
  cases k : fD c s p t q u d1 d2 N with
  | some d => exact ⟨d, rfl⟩
  | none =>
    exfalso
    rw [h.none_iff c N0 N1] at k
    unfold anyB at k
    rw [Bool.or_eq_false_iff] at k
    have low := (h.g.some h.pos).2.1
    rw [h.hA, show ((A : Int) - 1).toNat = A - 1 by omega] at low
    have r := h.rm
    have e1 := dn_le (vlF f L (mg S b)) (10 ^ (A - N))
    have e2 := up_ge (X := vlF f L (mg S b)) (ten_pos (A - N))
    rcases digits_there h.fn.sf.fs.1 hN N0 h.m0 h.fn.m low with q | q
    · have q' : loF f L (mg S b) < dnU (vlF f L (mg S b)) (10 ^ (A - N)) := q
      have w : hitB c (loF f L (mg S b)) (hiF f L (mg S b)) (dnU (vlF f L (mg S b)) (10 ^ (A - N))) = true := by
        rw [hitB_iff]
        have := r.above
        cases c
        · exact Or.inr ⟨rfl, by omega, by omega⟩
        · exact Or.inl ⟨rfl, by omega, by omega⟩
      rw [w] at k
      cases k.1
    · have q' : upU (vlF f L (mg S b)) (10 ^ (A - N)) < hiF f L (mg S b) := q
      have w : hitB c (loF f L (mg S b)) (hiF f L (mg S b)) (upU (vlF f L (mg S b)) (10 ^ (A - N))) = true := by
        rw [hitB_iff]
        have := r.below
        cases c
        · exact Or.inr ⟨rfl, by omega, by omega⟩
        · exact Or.inl ⟨rfl, by omega, by omega⟩
      rw [w] at k
      cases k.2
theorem gb_ok {b b1 z k xe e0 : Int} {m : Nat} {ng : Bool} (HP : ∀ W, Calls Tryz.prog 38 #[.int .u64 b, .int .i64 z] W fun e w' => e = .returned (.tuple #[.int .u64 b1, .nilIface]) ∧ Below W.heap.size W w') (HU : ∀ W, Calls Tryz.prog 13 #[.int .u64 b1, .int .i64 z] W fun e w' => e = .returned (.tuple #[.agg #[.bool ng, .int .i64 k, .int .u64 (m : Int), .int .i64 xe], .nilIface]) ∧ Below W.heap.size W w') (w : World) :
 Calls Tryz.prog 16 #[.int .u64 b, .int .i64 z, .int .i64 e0] w fun x w' => x = .returned (.int .u64 (if xe < e0 then 1 else 2)) ∧ Below w.heap.size w w' := by
 have F0 : Hid (Below w.heap.size w w) := Below.refl _ _
 go_enter Tryz.func16, Tryz.ntmps16
 go_wp2_with fail
 all_goals first | (exfalso; omega) | skip
 refine (HP _).mono ?_
 rintro o1 w1 ⟨rfl, bb⟩
 have F1 : Hid (Below w.heap.size w w1) := (F0.out).trans (bb.mono (F0.out).size)
 clear F0
 clear bb
 go_wp2_with fail
 all_goals first | (exfalso; omega) | skip
 refine (HU _).mono ?_
 rintro o2 w2 ⟨rfl, bb⟩
 have F2 : Hid (Below w.heap.size w w2) := (F1.out).trans (bb.mono (F1.out).size)
 clear F1
 clear bb
 have le0 := (F2.out).size
 have F3 : Hid (Bk (w2.alloc (.cells #[.bool ng, .int .i64 k, .int .u64 (m : Int), .int .i64 xe] 39)) (w2.heap.size) [.bool ng, .int .i64 k, .int .u64 (m : Int), .int .i64 xe] ∧ Below w.heap.size w (w2.alloc (.cells #[.bool ng, .int .i64 k, .int .u64 (m : Int), .int .i64 xe] 39))) := ⟨Bk.newL w2 [.bool ng, .int .i64 k, .int .u64 (m : Int), .int .i64 xe] 39, (F2.out).alloc ((F2.out).size) _⟩
 clear F2
 go_upto_region 3 with fail
 generalize (w2.alloc (.cells #[.bool ng, .int .i64 k, .int .u64 (m : Int), .int .i64 xe] 39)) = w3 at *
 have l1_0 := F3.out.1.lt
 have a1_0_0 := F3.out.1.cell 0 _ rfl
 have f1_0_0 := F3.out.1.fz 0
 have a1_0_1 := F3.out.1.cell 1 _ rfl
 have f1_0_1 := F3.out.1.fz 1
 have a1_0_2 := F3.out.1.cell 2 _ rfl
 have f1_0_2 := F3.out.1.fz 2
 have a1_0_3 := F3.out.1.cell 3 _ rfl
 have f1_0_3 := F3.out.1.fz 3
 by_cases c : xe < e0
 · go_wp2
   go_ret
   exact ⟨by first | rfl | (rw [if_pos c]; rfl), F3.out.2⟩
 · go_wp2
   go_ret
   exact ⟨by first | rfl | (rw [if_neg (by omega)]; rfl), F3.out.2⟩
theorem so_ok {w : World} {e0 l X mh ml : Int} {ex : Bool} (hT : Tab w) (l1 : -400 ≤ l) (l2 : l ≤ 400) (e1 : -1100 ≤ e0) (e2 : e0 ≤ 1100) (x1 : -2000 ≤ X) (x2 : X ≤ 2000) (HD : ∀ W, Calls Tryz.prog 32 #[.int .i64 e0] W fun e w' => e = .returned (.tuple #[.int .i64 l, .nilIface]) ∧ Below W.heap.size W w') (HO : ∀ W, Tab W → Calls Tryz.prog 33 #[.int .i64 (-(l - 3))] W fun e w' => e = .returned (.tuple #[.agg #[.int .u64 mh, .int .u64 ml, .int .i64 X, .bool ex], .nilIface]) ∧ Below W.heap.size W w') :
 Calls Tryz.prog 14 #[.int .i64 e0] w fun x w' => x = .returned (.agg #[.int .u64 mh, .int .u64 ml, .int .i64 X, .bool ex, .int .i64 (l - 3), .int .i64 (2 - e0 - X)]) ∧ Below w.heap.size w w' := by
 have F0 : Hid (Bk (w.alloc (.cells #[.int .u64 0, .int .u64 0, .int .i64 0, .bool false, .int .i64 0, .int .i64 0] 49)) (w.heap.size) [.int .u64 0, .int .u64 0, .int .i64 0, .bool false, .int .i64 0, .int .i64 0] ∧ Below w.heap.size w (w.alloc (.cells #[.int .u64 0, .int .u64 0, .int .i64 0, .bool false, .int .i64 0, .int .i64 0] 49))) := ⟨Bk.newL w [.int .u64 0, .int .u64 0, .int .i64 0, .bool false, .int .i64 0, .int .i64 0] 49, ((Below.refl w.heap.size w)).alloc (Nat.le_refl _) _⟩
 go_enter Tryz.func14, Tryz.ntmps14
 go_upto_region 1 with fail
 generalize (w.alloc (.cells #[.int .u64 0, .int .u64 0, .int .i64 0, .bool false, .int .i64 0, .int .i64 0] 49)) = w1 at *
 go_wp2_with fail
 all_goals first | (exfalso; omega) | skip
 refine (HD _).mono ?_
 rintro o2 w2 ⟨rfl, bb⟩
 have F1 : Hid (Bk w2 (w.heap.size) [.int .u64 0, .int .u64 0, .int .i64 0, .bool false, .int .i64 0, .int .i64 0] ∧ Below w.heap.size w w2) := ⟨(F0.out.1).step bb, (F0.out.2).trans (bb.mono (F0.out.2).size)⟩
 clear F0
 clear bb
 go_wp2_with fail
 all_goals first | (exfalso; omega) | skip
 refine (HO _ (hT.next (F1.out.2))).mono ?_
 rintro o3 w3 ⟨rfl, bb⟩
 have F2 : Hid (Bk w3 (w.heap.size) [.int .u64 0, .int .u64 0, .int .i64 0, .bool false, .int .i64 0, .int .i64 0] ∧ Below w.heap.size w w3) := ⟨(F1.out.1).step bb, (F1.out.2).trans (bb.mono (F1.out.2).size)⟩
 clear F1
 clear bb
 have lt0_1 := (F2.out.1).lt
 have le1 := (F2.out.2).size
 have F3 : Hid (Bk (w3.alloc (.cells #[.int .u64 mh, .int .u64 ml, .int .i64 X, .bool ex] 47)) (w.heap.size) [.int .u64 0, .int .u64 0, .int .i64 0, .bool false, .int .i64 0, .int .i64 0] ∧ Bk (w3.alloc (.cells #[.int .u64 mh, .int .u64 ml, .int .i64 X, .bool ex] 47)) (w3.heap.size) [.int .u64 mh, .int .u64 ml, .int .i64 X, .bool ex] ∧ Below w.heap.size w (w3.alloc (.cells #[.int .u64 mh, .int .u64 ml, .int .i64 X, .bool ex] 47))) := ⟨(F2.out.1).step ((Below.refl _ _).alloc (Nat.le_refl _) _), Bk.newL w3 [.int .u64 mh, .int .u64 ml, .int .i64 X, .bool ex] 47, (F2.out.2).alloc ((F2.out.2).size) _⟩
 clear F2
 go_upto_region 4 with fail
 generalize (w3.alloc (.cells #[.int .u64 mh, .int .u64 ml, .int .i64 X, .bool ex] 47)) = w4 at *
 have l1_0 := F3.out.1.lt
 have a1_0_0 := F3.out.1.cell 0 _ rfl
 have f1_0_0 := F3.out.1.fz 0
 have a1_0_1 := F3.out.1.cell 1 _ rfl
 have f1_0_1 := F3.out.1.fz 1
 have a1_0_2 := F3.out.1.cell 2 _ rfl
 have f1_0_2 := F3.out.1.fz 2
 have a1_0_3 := F3.out.1.cell 3 _ rfl
 have f1_0_3 := F3.out.1.fz 3
 have a1_0_4 := F3.out.1.cell 4 _ rfl
 have f1_0_4 := F3.out.1.fz 4
 have a1_0_5 := F3.out.1.cell 5 _ rfl
 have f1_0_5 := F3.out.1.fz 5
 have l1_1 := F3.out.2.1.lt
 have a1_1_0 := F3.out.2.1.cell 0 _ rfl
 have f1_1_0 := F3.out.2.1.fz 0
 have a1_1_1 := F3.out.2.1.cell 1 _ rfl
 have f1_1_1 := F3.out.2.1.fz 1
 have a1_1_2 := F3.out.2.1.cell 2 _ rfl
 have f1_1_2 := F3.out.2.1.fz 2
 have a1_1_3 := F3.out.2.1.cell 3 _ rfl
 have f1_1_3 := F3.out.2.1.fz 3
 have ne1_0_1 : ¬ w.heap.size = w3.heap.size := by omega
 have ne1_1_0 : ¬ w3.heap.size = w.heap.size := by omega
 go_wp2
 refine bodyPost_ret (v := .agg #[.int .u64 mh, .int .u64 ml, .int .i64 X, .bool ex, .int .i64 (l - 3), .int .i64 (2 - e0 - X)]) (by simp [results, Tryz.results14, go_sem, World.cell?_setCell_same, World.cell?_setCell_other, *]) rfl ⟨rfl, ?_⟩
 repeat (first | refine Below.setCell ?_ (by first | exact Nat.le_refl _ | (dsimp only; omega)) _ | refine Below.alloc ?_ (by first | exact Nat.le_refl _ | omega | (simp; omega)) _ | refine Below.drew ?_)
 exact F3.out.2.2
theorem qc_ex {w : World} {mh ml X p d : Int} {F : Nat} {t h l u1 : Int} {m1 : Bool} (hT : Tab w) (HM : ∀ W, Calls Tryz.prog 115 #[.agg #[.int .u64 mh, .int .u64 ml], .int .u64 (F : Int)] W fun e w' => e = .returned (.tuple #[.int .u64 t, .agg #[.int .u64 h, .int .u64 l]]) ∧ Below W.heap.size W w') (HU : ∀ W, Tab W → Calls Tryz.prog 116 #[.agg #[.int .u64 mh, .int .u64 ml, .int .i64 X, .bool true, .int .i64 p, .int .i64 d], .int .u64 t, .agg #[.int .u64 h, .int .u64 l]] W fun e w' => e = .returned (.tuple #[.int .u64 u1, .bool m1]) ∧ Below W.heap.size W w')  :
 Calls Tryz.prog 75 #[.agg #[.int .u64 mh, .int .u64 ml, .int .i64 X, .bool true, .int .i64 p, .int .i64 d], .int .u64 (F : Int)] w fun x w' => x = .returned (.tuple #[.agg #[.int .u64 u1, .bool m1], .bool true]) ∧ Below w.heap.size w w' := by
 have F0 : Hid (Bk ((w.alloc (.cells #[.int .u64 mh, .int .u64 ml, .int .i64 X, .bool true, .int .i64 p, .int .i64 d] 49)).alloc (.cells #[.int .u64 0, .bool false] 82)) (w.heap.size) [.int .u64 mh, .int .u64 ml, .int .i64 X, .bool true, .int .i64 p, .int .i64 d] ∧ Bk ((w.alloc (.cells #[.int .u64 mh, .int .u64 ml, .int .i64 X, .bool true, .int .i64 p, .int .i64 d] 49)).alloc (.cells #[.int .u64 0, .bool false] 82)) (w.heap.size + 1) [.int .u64 0, .bool false] ∧ Below w.heap.size w ((w.alloc (.cells #[.int .u64 mh, .int .u64 ml, .int .i64 X, .bool true, .int .i64 p, .int .i64 d] 49)).alloc (.cells #[.int .u64 0, .bool false] 82))) := ⟨(Bk.newL w [.int .u64 mh, .int .u64 ml, .int .i64 X, .bool true, .int .i64 p, .int .i64 d] 49).step ((Below.refl _ _).alloc (Nat.le_refl _) _), ((by have q := Bk.newL (w.alloc (.cells #[.int .u64 mh, .int .u64 ml, .int .i64 X, .bool true, .int .i64 p, .int .i64 d] 49)) [.int .u64 0, .bool false] 82; simpa using q) : Bk ((w.alloc (.cells #[.int .u64 mh, .int .u64 ml, .int .i64 X, .bool true, .int .i64 p, .int .i64 d] 49)).alloc (.cells #[.int .u64 0, .bool false] 82)) (w.heap.size + 1) [.int .u64 0, .bool false]), (((Below.refl w.heap.size w)).alloc (Nat.le_refl _) _).alloc ((((Below.refl w.heap.size w)).alloc (Nat.le_refl _) _).size) _⟩
 go_enter Tryz.func75, Tryz.ntmps75
 go_upto_region 1 with fail
 generalize ((w.alloc (.cells #[.int .u64 mh, .int .u64 ml, .int .i64 X, .bool true, .int .i64 p, .int .i64 d] 49)).alloc (.cells #[.int .u64 0, .bool false] 82)) = w1 at *
 have l1_0 := F0.out.1.lt
 have a1_0_0 := F0.out.1.cell 0 _ rfl
 have f1_0_0 := F0.out.1.fz 0
 have a1_0_1 := F0.out.1.cell 1 _ rfl
 have f1_0_1 := F0.out.1.fz 1
 have a1_0_2 := F0.out.1.cell 2 _ rfl
 have f1_0_2 := F0.out.1.fz 2
 have a1_0_3 := F0.out.1.cell 3 _ rfl
 have f1_0_3 := F0.out.1.fz 3
 have a1_0_4 := F0.out.1.cell 4 _ rfl
 have f1_0_4 := F0.out.1.fz 4
 have a1_0_5 := F0.out.1.cell 5 _ rfl
 have f1_0_5 := F0.out.1.fz 5
 have l1_1 := F0.out.2.1.lt
 have a1_1_0 := F0.out.2.1.cell 0 _ rfl
 have f1_1_0 := F0.out.2.1.fz 0
 have a1_1_1 := F0.out.2.1.cell 1 _ rfl
 have f1_1_1 := F0.out.2.1.fz 1
 have ne1_0_1 : ¬ w.heap.size = w.heap.size + 1 := by omega
 have ne1_1_0 : ¬ w.heap.size + 1 = w.heap.size := by omega
 go_wp2_with fail
 all_goals first | (exfalso; omega) | skip
 refine (HM _).mono ?_
 rintro o2 w2 ⟨rfl, bb⟩
 have F1 : Hid (Bk w2 (w.heap.size) [.int .u64 mh, .int .u64 ml, .int .i64 X, .bool true, .int .i64 p, .int .i64 d] ∧ Bk w2 (w.heap.size + 1) [.int .u64 0, .bool false] ∧ Below w.heap.size w w2) := ⟨(F0.out.1).step bb, (F0.out.2.1).step bb, (F0.out.2.2).trans (bb.mono (F0.out.2.2).size)⟩
 clear F0
 clear bb
 clear l1_0 a1_0_0 f1_0_0 a1_0_1 f1_0_1 a1_0_2 f1_0_2 a1_0_3 f1_0_3 a1_0_4 f1_0_4 a1_0_5 f1_0_5 l1_1 a1_1_0 f1_1_0 a1_1_1 f1_1_1
 have lt0_2 := (F1.out.1).lt
 have lt1_2 := (F1.out.2.1).lt
 have le2 := (F1.out.2.2).size
 have F2 : Hid (Bk (w2.alloc (.cells #[.int .u64 h, .int .u64 l] 45)) (w.heap.size) [.int .u64 mh, .int .u64 ml, .int .i64 X, .bool true, .int .i64 p, .int .i64 d] ∧ Bk (w2.alloc (.cells #[.int .u64 h, .int .u64 l] 45)) (w.heap.size + 1) [.int .u64 0, .bool false] ∧ Bk (w2.alloc (.cells #[.int .u64 h, .int .u64 l] 45)) (w2.heap.size) [.int .u64 h, .int .u64 l] ∧ Below w.heap.size w (w2.alloc (.cells #[.int .u64 h, .int .u64 l] 45))) := ⟨(F1.out.1).step ((Below.refl _ _).alloc (Nat.le_refl _) _), (F1.out.2.1).step ((Below.refl _ _).alloc (Nat.le_refl _) _), Bk.newL w2 [.int .u64 h, .int .u64 l] 45, (F1.out.2.2).alloc ((F1.out.2.2).size) _⟩
 clear F1
 go_upto_region 2 with fail
 generalize (w2.alloc (.cells #[.int .u64 h, .int .u64 l] 45)) = w3 at *
 have l2_0 := F2.out.1.lt
 have a2_0_0 := F2.out.1.cell 0 _ rfl
 have f2_0_0 := F2.out.1.fz 0
 have a2_0_1 := F2.out.1.cell 1 _ rfl
 have f2_0_1 := F2.out.1.fz 1
 have a2_0_2 := F2.out.1.cell 2 _ rfl
 have f2_0_2 := F2.out.1.fz 2
 have a2_0_3 := F2.out.1.cell 3 _ rfl
 have f2_0_3 := F2.out.1.fz 3
 have a2_0_4 := F2.out.1.cell 4 _ rfl
 have f2_0_4 := F2.out.1.fz 4
 have a2_0_5 := F2.out.1.cell 5 _ rfl
 have f2_0_5 := F2.out.1.fz 5
 have l2_1 := F2.out.2.1.lt
 have a2_1_0 := F2.out.2.1.cell 0 _ rfl
 have f2_1_0 := F2.out.2.1.fz 0
 have a2_1_1 := F2.out.2.1.cell 1 _ rfl
 have f2_1_1 := F2.out.2.1.fz 1
 have l2_2 := F2.out.2.2.1.lt
 have a2_2_0 := F2.out.2.2.1.cell 0 _ rfl
 have f2_2_0 := F2.out.2.2.1.fz 0
 have a2_2_1 := F2.out.2.2.1.cell 1 _ rfl
 have f2_2_1 := F2.out.2.2.1.fz 1
 have ne2_0_1 : ¬ w.heap.size = w.heap.size + 1 := by omega
 have ne2_0_2 : ¬ w.heap.size = w2.heap.size := by omega
 have ne2_1_0 : ¬ w.heap.size + 1 = w.heap.size := by omega
 have ne2_1_2 : ¬ w.heap.size + 1 = w2.heap.size := by omega
 have ne2_2_0 : ¬ w2.heap.size = w.heap.size := by omega
 have ne2_2_1 : ¬ w2.heap.size = w.heap.size + 1 := by omega
 go_wp2_with fail
 all_goals first | (exfalso; omega) | skip
 refine (HU _ (hT.next (F2.out.2.2.2))).mono ?_
 rintro o4 w4 ⟨rfl, bb⟩
 have F3 : Hid (Bk w4 (w.heap.size) [.int .u64 mh, .int .u64 ml, .int .i64 X, .bool true, .int .i64 p, .int .i64 d] ∧ Bk w4 (w.heap.size + 1) [.int .u64 0, .bool false] ∧ Bk w4 (w2.heap.size) [.int .u64 h, .int .u64 l] ∧ Below w.heap.size w w4) := ⟨(F2.out.1).step bb, (F2.out.2.1).step bb, (F2.out.2.2.1).step bb, (F2.out.2.2.2).trans (bb.mono (F2.out.2.2.2).size)⟩
 clear F2
 clear bb
 clear l2_0 a2_0_0 f2_0_0 a2_0_1 f2_0_1 a2_0_2 f2_0_2 a2_0_3 f2_0_3 a2_0_4 f2_0_4 a2_0_5 f2_0_5 l2_1 a2_1_0 f2_1_0 a2_1_1 f2_1_1 l2_2 a2_2_0 f2_2_0 a2_2_1 f2_2_1
 have l3_0 := F3.out.1.lt
 have a3_0_0 := F3.out.1.cell 0 _ rfl
 have f3_0_0 := F3.out.1.fz 0
 have a3_0_1 := F3.out.1.cell 1 _ rfl
 have f3_0_1 := F3.out.1.fz 1
 have a3_0_2 := F3.out.1.cell 2 _ rfl
 have f3_0_2 := F3.out.1.fz 2
 have a3_0_3 := F3.out.1.cell 3 _ rfl
 have f3_0_3 := F3.out.1.fz 3
 have a3_0_4 := F3.out.1.cell 4 _ rfl
 have f3_0_4 := F3.out.1.fz 4
 have a3_0_5 := F3.out.1.cell 5 _ rfl
 have f3_0_5 := F3.out.1.fz 5
 have l3_1 := F3.out.2.1.lt
 have a3_1_0 := F3.out.2.1.cell 0 _ rfl
 have f3_1_0 := F3.out.2.1.fz 0
 have a3_1_1 := F3.out.2.1.cell 1 _ rfl
 have f3_1_1 := F3.out.2.1.fz 1
 have l3_2 := F3.out.2.2.1.lt
 have a3_2_0 := F3.out.2.2.1.cell 0 _ rfl
 have f3_2_0 := F3.out.2.2.1.fz 0
 have a3_2_1 := F3.out.2.2.1.cell 1 _ rfl
 have f3_2_1 := F3.out.2.2.1.fz 1
 have ne3_0_1 : ¬ w.heap.size = w.heap.size + 1 := by omega
 have ne3_0_2 : ¬ w.heap.size = w2.heap.size := by omega
 have ne3_1_0 : ¬ w.heap.size + 1 = w.heap.size := by omega
 have ne3_1_2 : ¬ w.heap.size + 1 = w2.heap.size := by omega
 have ne3_2_0 : ¬ w2.heap.size = w.heap.size := by omega
 have ne3_2_1 : ¬ w2.heap.size = w.heap.size + 1 := by omega
 go_wp2
 refine bodyPost_ret (v := .tuple #[.agg #[.int .u64 u1, .bool m1], .bool true]) (by simp [results, Tryz.results75, go_sem, World.cell?_setCell_same, World.cell?_setCell_other, *]) rfl ⟨rfl, ?_⟩
 repeat (first | refine Below.setCell ?_ (by first | exact Nat.le_refl _ | (dsimp only; omega)) _ | refine Below.alloc ?_ (by first | exact Nat.le_refl _ | omega | (simp; omega)) _ | refine Below.drew ?_)
 exact F3.out.2.2.2
theorem qc_same {w : World} {mh ml X p d : Int} {F : Nat} {t h l u1 : Int} {m1 : Bool} (hT : Tab w) {h2 l2 t2 u2 : Int} {m2 cy : Bool} (e12 : u2 = u1) (HM : ∀ W, Calls Tryz.prog 115 #[.agg #[.int .u64 mh, .int .u64 ml], .int .u64 (F : Int)] W fun e w' => e = .returned (.tuple #[.int .u64 t, .agg #[.int .u64 h, .int .u64 l]]) ∧ Below W.heap.size W w') (HU : ∀ W, Tab W → Calls Tryz.prog 116 #[.agg #[.int .u64 mh, .int .u64 ml, .int .i64 X, .bool false, .int .i64 p, .int .i64 d], .int .u64 t, .agg #[.int .u64 h, .int .u64 l]] W fun e w' => e = .returned (.tuple #[.int .u64 u1, .bool m1]) ∧ Below W.heap.size W w') (HA : ∀ W, Calls Tryz.prog 117 #[.agg #[.int .u64 h, .int .u64 l], .agg #[.int .u64 0, .int .u64 (F : Int)]] W fun e w' => e = .returned (.tuple #[.agg #[.int .u64 h2, .int .u64 l2], .bool cy]) ∧ Below W.heap.size W w') (hcy : Hid ((cy = false ∧ t = t2) ∨ (cy = true ∧ IntKind.u64.wrap (t + 1) = t2))) (HV : ∀ W, Tab W → Calls Tryz.prog 116 #[.agg #[.int .u64 mh, .int .u64 ml, .int .i64 X, .bool false, .int .i64 p, .int .i64 d], .int .u64 t2, .agg #[.int .u64 h2, .int .u64 l2]] W fun e w' => e = .returned (.tuple #[.int .u64 u2, .bool m2]) ∧ Below W.heap.size W w') :
 Calls Tryz.prog 75 #[.agg #[.int .u64 mh, .int .u64 ml, .int .i64 X, .bool false, .int .i64 p, .int .i64 d], .int .u64 (F : Int)] w fun x w' => x = .returned (.tuple #[.agg #[.int .u64 u1, .bool true], .bool true]) ∧ Below w.heap.size w w' := by
 have F0 : Hid (Bk ((w.alloc (.cells #[.int .u64 mh, .int .u64 ml, .int .i64 X, .bool false, .int .i64 p, .int .i64 d] 49)).alloc (.cells #[.int .u64 0, .bool false] 82)) (w.heap.size) [.int .u64 mh, .int .u64 ml, .int .i64 X, .bool false, .int .i64 p, .int .i64 d] ∧ Bk ((w.alloc (.cells #[.int .u64 mh, .int .u64 ml, .int .i64 X, .bool false, .int .i64 p, .int .i64 d] 49)).alloc (.cells #[.int .u64 0, .bool false] 82)) (w.heap.size + 1) [.int .u64 0, .bool false] ∧ Below w.heap.size w ((w.alloc (.cells #[.int .u64 mh, .int .u64 ml, .int .i64 X, .bool false, .int .i64 p, .int .i64 d] 49)).alloc (.cells #[.int .u64 0, .bool false] 82))) := ⟨(Bk.newL w [.int .u64 mh, .int .u64 ml, .int .i64 X, .bool false, .int .i64 p, .int .i64 d] 49).step ((Below.refl _ _).alloc (Nat.le_refl _) _), ((by have q := Bk.newL (w.alloc (.cells #[.int .u64 mh, .int .u64 ml, .int .i64 X, .bool false, .int .i64 p, .int .i64 d] 49)) [.int .u64 0, .bool false] 82; simpa using q) : Bk ((w.alloc (.cells #[.int .u64 mh, .int .u64 ml, .int .i64 X, .bool false, .int .i64 p, .int .i64 d] 49)).alloc (.cells #[.int .u64 0, .bool false] 82)) (w.heap.size + 1) [.int .u64 0, .bool false]), (((Below.refl w.heap.size w)).alloc (Nat.le_refl _) _).alloc ((((Below.refl w.heap.size w)).alloc (Nat.le_refl _) _).size) _⟩
 go_enter Tryz.func75, Tryz.ntmps75
 go_upto_region 1 with fail
 generalize ((w.alloc (.cells #[.int .u64 mh, .int .u64 ml, .int .i64 X, .bool false, .int .i64 p, .int .i64 d] 49)).alloc (.cells #[.int .u64 0, .bool false] 82)) = w1 at *
 have l1_0 := F0.out.1.lt
 have a1_0_0 := F0.out.1.cell 0 _ rfl
 have f1_0_0 := F0.out.1.fz 0
 have a1_0_1 := F0.out.1.cell 1 _ rfl
 have f1_0_1 := F0.out.1.fz 1
 have a1_0_2 := F0.out.1.cell 2 _ rfl
 have f1_0_2 := F0.out.1.fz 2
 have a1_0_3 := F0.out.1.cell 3 _ rfl
 have f1_0_3 := F0.out.1.fz 3
 have a1_0_4 := F0.out.1.cell 4 _ rfl
 have f1_0_4 := F0.out.1.fz 4
 have a1_0_5 := F0.out.1.cell 5 _ rfl
 have f1_0_5 := F0.out.1.fz 5
 have l1_1 := F0.out.2.1.lt
 have a1_1_0 := F0.out.2.1.cell 0 _ rfl
 have f1_1_0 := F0.out.2.1.fz 0
 have a1_1_1 := F0.out.2.1.cell 1 _ rfl
 have f1_1_1 := F0.out.2.1.fz 1
 have ne1_0_1 : ¬ w.heap.size = w.heap.size + 1 := by omega
 have ne1_1_0 : ¬ w.heap.size + 1 = w.heap.size := by omega
 go_wp2_with fail
 all_goals first | (exfalso; omega) | skip
 refine (HM _).mono ?_
 rintro o2 w2 ⟨rfl, bb⟩
 have F1 : Hid (Bk w2 (w.heap.size) [.int .u64 mh, .int .u64 ml, .int .i64 X, .bool false, .int .i64 p, .int .i64 d] ∧ Bk w2 (w.heap.size + 1) [.int .u64 0, .bool false] ∧ Below w.heap.size w w2) := ⟨(F0.out.1).step bb, (F0.out.2.1).step bb, (F0.out.2.2).trans (bb.mono (F0.out.2.2).size)⟩
 clear F0
 clear bb
 clear l1_0 a1_0_0 f1_0_0 a1_0_1 f1_0_1 a1_0_2 f1_0_2 a1_0_3 f1_0_3 a1_0_4 f1_0_4 a1_0_5 f1_0_5 l1_1 a1_1_0 f1_1_0 a1_1_1 f1_1_1
 have lt0_2 := (F1.out.1).lt
 have lt1_2 := (F1.out.2.1).lt
 have le2 := (F1.out.2.2).size
 have F2 : Hid (Bk (w2.alloc (.cells #[.int .u64 h, .int .u64 l] 45)) (w.heap.size) [.int .u64 mh, .int .u64 ml, .int .i64 X, .bool false, .int .i64 p, .int .i64 d] ∧ Bk (w2.alloc (.cells #[.int .u64 h, .int .u64 l] 45)) (w.heap.size + 1) [.int .u64 0, .bool false] ∧ Bk (w2.alloc (.cells #[.int .u64 h, .int .u64 l] 45)) (w2.heap.size) [.int .u64 h, .int .u64 l] ∧ Below w.heap.size w (w2.alloc (.cells #[.int .u64 h, .int .u64 l] 45))) := ⟨(F1.out.1).step ((Below.refl _ _).alloc (Nat.le_refl _) _), (F1.out.2.1).step ((Below.refl _ _).alloc (Nat.le_refl _) _), Bk.newL w2 [.int .u64 h, .int .u64 l] 45, (F1.out.2.2).alloc ((F1.out.2.2).size) _⟩
 clear F1
 go_upto_region 2 with fail
 generalize (w2.alloc (.cells #[.int .u64 h, .int .u64 l] 45)) = w3 at *
 have l2_0 := F2.out.1.lt
 have a2_0_0 := F2.out.1.cell 0 _ rfl
 have f2_0_0 := F2.out.1.fz 0
 have a2_0_1 := F2.out.1.cell 1 _ rfl
 have f2_0_1 := F2.out.1.fz 1
 have a2_0_2 := F2.out.1.cell 2 _ rfl
 have f2_0_2 := F2.out.1.fz 2
 have a2_0_3 := F2.out.1.cell 3 _ rfl
 have f2_0_3 := F2.out.1.fz 3
 have a2_0_4 := F2.out.1.cell 4 _ rfl
 have f2_0_4 := F2.out.1.fz 4
 have a2_0_5 := F2.out.1.cell 5 _ rfl
 have f2_0_5 := F2.out.1.fz 5
 have l2_1 := F2.out.2.1.lt
 have a2_1_0 := F2.out.2.1.cell 0 _ rfl
 have f2_1_0 := F2.out.2.1.fz 0
 have a2_1_1 := F2.out.2.1.cell 1 _ rfl
 have f2_1_1 := F2.out.2.1.fz 1
 have l2_2 := F2.out.2.2.1.lt
 have a2_2_0 := F2.out.2.2.1.cell 0 _ rfl
 have f2_2_0 := F2.out.2.2.1.fz 0
 have a2_2_1 := F2.out.2.2.1.cell 1 _ rfl
 have f2_2_1 := F2.out.2.2.1.fz 1
 have ne2_0_1 : ¬ w.heap.size = w.heap.size + 1 := by omega
 have ne2_0_2 : ¬ w.heap.size = w2.heap.size := by omega
 have ne2_1_0 : ¬ w.heap.size + 1 = w.heap.size := by omega
 have ne2_1_2 : ¬ w.heap.size + 1 = w2.heap.size := by omega
 have ne2_2_0 : ¬ w2.heap.size = w.heap.size := by omega
 have ne2_2_1 : ¬ w2.heap.size = w.heap.size + 1 := by omega
 go_wp2_with fail
 all_goals first | (exfalso; omega) | skip
 refine (HU _ (hT.next (F2.out.2.2.2))).mono ?_
 rintro o4 w4 ⟨rfl, bb⟩
 have F3 : Hid (Bk w4 (w.heap.size) [.int .u64 mh, .int .u64 ml, .int .i64 X, .bool false, .int .i64 p, .int .i64 d] ∧ Bk w4 (w.heap.size + 1) [.int .u64 0, .bool false] ∧ Bk w4 (w2.heap.size) [.int .u64 h, .int .u64 l] ∧ Below w.heap.size w w4) := ⟨(F2.out.1).step bb, (F2.out.2.1).step bb, (F2.out.2.2.1).step bb, (F2.out.2.2.2).trans (bb.mono (F2.out.2.2.2).size)⟩
 clear F2
 clear bb
 clear l2_0 a2_0_0 f2_0_0 a2_0_1 f2_0_1 a2_0_2 f2_0_2 a2_0_3 f2_0_3 a2_0_4 f2_0_4 a2_0_5 f2_0_5 l2_1 a2_1_0 f2_1_0 a2_1_1 f2_1_1 l2_2 a2_2_0 f2_2_0 a2_2_1 f2_2_1
 have l3_0 := F3.out.1.lt
 have a3_0_0 := F3.out.1.cell 0 _ rfl
 have f3_0_0 := F3.out.1.fz 0
 have a3_0_1 := F3.out.1.cell 1 _ rfl
 have f3_0_1 := F3.out.1.fz 1
 have a3_0_2 := F3.out.1.cell 2 _ rfl
 have f3_0_2 := F3.out.1.fz 2
 have a3_0_3 := F3.out.1.cell 3 _ rfl
 have f3_0_3 := F3.out.1.fz 3
 have a3_0_4 := F3.out.1.cell 4 _ rfl
 have f3_0_4 := F3.out.1.fz 4
 have a3_0_5 := F3.out.1.cell 5 _ rfl
 have f3_0_5 := F3.out.1.fz 5
 have l3_1 := F3.out.2.1.lt
 have a3_1_0 := F3.out.2.1.cell 0 _ rfl
 have f3_1_0 := F3.out.2.1.fz 0
 have a3_1_1 := F3.out.2.1.cell 1 _ rfl
 have f3_1_1 := F3.out.2.1.fz 1
 have l3_2 := F3.out.2.2.1.lt
 have a3_2_0 := F3.out.2.2.1.cell 0 _ rfl
 have f3_2_0 := F3.out.2.2.1.fz 0
 have a3_2_1 := F3.out.2.2.1.cell 1 _ rfl
 have f3_2_1 := F3.out.2.2.1.fz 1
 have ne3_0_1 : ¬ w.heap.size = w.heap.size + 1 := by omega
 have ne3_0_2 : ¬ w.heap.size = w2.heap.size := by omega
 have ne3_1_0 : ¬ w.heap.size + 1 = w.heap.size := by omega
 have ne3_1_2 : ¬ w.heap.size + 1 = w2.heap.size := by omega
 have ne3_2_0 : ¬ w2.heap.size = w.heap.size := by omega
 have ne3_2_1 : ¬ w2.heap.size = w.heap.size + 1 := by omega
 go_wp2_with fail
 all_goals first | (exfalso; omega) | skip
 refine (HA _).mono ?_
 rintro o5 w5 ⟨rfl, bb⟩
 have F4 : Hid (Bk w5 (w.heap.size) [.int .u64 mh, .int .u64 ml, .int .i64 X, .bool false, .int .i64 p, .int .i64 d] ∧ Bk w5 (w.heap.size + 1) [.int .u64 0, .bool false] ∧ Bk w5 (w2.heap.size) [.int .u64 h, .int .u64 l] ∧ Below w.heap.size w w5) := ⟨(F3.out.1).step bb, (F3.out.2.1).step bb, (F3.out.2.2.1).step bb, (F3.out.2.2.2).trans (bb.mono (F3.out.2.2.2).size)⟩
 clear F3
 clear bb
 clear l3_0 a3_0_0 f3_0_0 a3_0_1 f3_0_1 a3_0_2 f3_0_2 a3_0_3 f3_0_3 a3_0_4 f3_0_4 a3_0_5 f3_0_5 l3_1 a3_1_0 f3_1_0 a3_1_1 f3_1_1 l3_2 a3_2_0 f3_2_0 a3_2_1 f3_2_1
 have l4_0 := F4.out.1.lt
 have a4_0_0 := F4.out.1.cell 0 _ rfl
 have f4_0_0 := F4.out.1.fz 0
 have a4_0_1 := F4.out.1.cell 1 _ rfl
 have f4_0_1 := F4.out.1.fz 1
 have a4_0_2 := F4.out.1.cell 2 _ rfl
 have f4_0_2 := F4.out.1.fz 2
 have a4_0_3 := F4.out.1.cell 3 _ rfl
 have f4_0_3 := F4.out.1.fz 3
 have a4_0_4 := F4.out.1.cell 4 _ rfl
 have f4_0_4 := F4.out.1.fz 4
 have a4_0_5 := F4.out.1.cell 5 _ rfl
 have f4_0_5 := F4.out.1.fz 5
 have l4_1 := F4.out.2.1.lt
 have a4_1_0 := F4.out.2.1.cell 0 _ rfl
 have f4_1_0 := F4.out.2.1.fz 0
 have a4_1_1 := F4.out.2.1.cell 1 _ rfl
 have f4_1_1 := F4.out.2.1.fz 1
 have l4_2 := F4.out.2.2.1.lt
 have a4_2_0 := F4.out.2.2.1.cell 0 _ rfl
 have f4_2_0 := F4.out.2.2.1.fz 0
 have a4_2_1 := F4.out.2.2.1.cell 1 _ rfl
 have f4_2_1 := F4.out.2.2.1.fz 1
 have ne4_0_1 : ¬ w.heap.size = w.heap.size + 1 := by omega
 have ne4_0_2 : ¬ w.heap.size = w2.heap.size := by omega
 have ne4_1_0 : ¬ w.heap.size + 1 = w.heap.size := by omega
 have ne4_1_2 : ¬ w.heap.size + 1 = w2.heap.size := by omega
 have ne4_2_0 : ¬ w2.heap.size = w.heap.size := by omega
 have ne4_2_1 : ¬ w2.heap.size = w.heap.size + 1 := by omega
 rcases hcy.out with ⟨hc, ht⟩ | ⟨hc, ht⟩
 all_goals
  go_upto_region 8 with fail
  clear l4_0 a4_0_0 f4_0_0 a4_0_1 f4_0_1 a4_0_2 f4_0_2 a4_0_3 f4_0_3 a4_0_4 f4_0_4 a4_0_5 f4_0_5 l4_1 a4_1_0 f4_1_0 a4_1_1 f4_1_1 l4_2 a4_2_0 f4_2_0 a4_2_1 f4_2_1
  have F5 : Hid (Bk ((w5.setCell ⟨w2.heap.size, 0, none⟩ (.int .u64 h2)).setCell ⟨w2.heap.size, 1, none⟩ (.int .u64 l2)) (w.heap.size) [.int .u64 mh, .int .u64 ml, .int .i64 X, .bool false, .int .i64 p, .int .i64 d] ∧ Bk ((w5.setCell ⟨w2.heap.size, 0, none⟩ (.int .u64 h2)).setCell ⟨w2.heap.size, 1, none⟩ (.int .u64 l2)) (w.heap.size + 1) [.int .u64 0, .bool false] ∧ Bk ((w5.setCell ⟨w2.heap.size, 0, none⟩ (.int .u64 h2)).setCell ⟨w2.heap.size, 1, none⟩ (.int .u64 l2)) (w2.heap.size) [.int .u64 h2, .int .u64 l2] ∧ Below w.heap.size w ((w5.setCell ⟨w2.heap.size, 0, none⟩ (.int .u64 h2)).setCell ⟨w2.heap.size, 1, none⟩ (.int .u64 l2))) := ⟨((F4.out.1).set1 (by omega) 0 (.int .u64 h2)).set1 (by omega) 1 (.int .u64 l2), ((F4.out.2.1).set1 (by omega) 0 (.int .u64 h2)).set1 (by omega) 1 (.int .u64 l2), (F4.out.2.2.1).fill2 (.int .u64 h2) (.int .u64 l2), ((F4.out.2.2.2).setCell (by dsimp only; omega) (.int .u64 h2)).setCell (by dsimp only; omega) (.int .u64 l2)⟩
  clear F4
  generalize ((w5.setCell ⟨w2.heap.size, 0, none⟩ (.int .u64 h2)).setCell ⟨w2.heap.size, 1, none⟩ (.int .u64 l2)) = w6 at *
  have l5_0 := F5.out.1.lt
  have a5_0_0 := F5.out.1.cell 0 _ rfl
  have f5_0_0 := F5.out.1.fz 0
  have a5_0_1 := F5.out.1.cell 1 _ rfl
  have f5_0_1 := F5.out.1.fz 1
  have a5_0_2 := F5.out.1.cell 2 _ rfl
  have f5_0_2 := F5.out.1.fz 2
  have a5_0_3 := F5.out.1.cell 3 _ rfl
  have f5_0_3 := F5.out.1.fz 3
  have a5_0_4 := F5.out.1.cell 4 _ rfl
  have f5_0_4 := F5.out.1.fz 4
  have a5_0_5 := F5.out.1.cell 5 _ rfl
  have f5_0_5 := F5.out.1.fz 5
  have l5_1 := F5.out.2.1.lt
  have a5_1_0 := F5.out.2.1.cell 0 _ rfl
  have f5_1_0 := F5.out.2.1.fz 0
  have a5_1_1 := F5.out.2.1.cell 1 _ rfl
  have f5_1_1 := F5.out.2.1.fz 1
  have l5_2 := F5.out.2.2.1.lt
  have a5_2_0 := F5.out.2.2.1.cell 0 _ rfl
  have f5_2_0 := F5.out.2.2.1.fz 0
  have a5_2_1 := F5.out.2.2.1.cell 1 _ rfl
  have f5_2_1 := F5.out.2.2.1.fz 1
  have ne5_0_1 : ¬ w.heap.size = w.heap.size + 1 := by omega
  have ne5_0_2 : ¬ w.heap.size = w2.heap.size := by omega
  have ne5_1_0 : ¬ w.heap.size + 1 = w.heap.size := by omega
  have ne5_1_2 : ¬ w.heap.size + 1 = w2.heap.size := by omega
  have ne5_2_0 : ¬ w2.heap.size = w.heap.size := by omega
  have ne5_2_1 : ¬ w2.heap.size = w.heap.size + 1 := by omega
  go_wp2_with fail
  all_goals first | (exfalso; omega) | skip
  refine (HV _ (hT.next F5.out.2.2.2)).mono ?_
  rintro o7 w7 ⟨rfl, bb⟩
  have F6 : Hid (Bk w7 (w.heap.size) [.int .u64 mh, .int .u64 ml, .int .i64 X, .bool false, .int .i64 p, .int .i64 d] ∧ Bk w7 (w.heap.size + 1) [.int .u64 0, .bool false] ∧ Bk w7 (w2.heap.size) [.int .u64 h2, .int .u64 l2] ∧ Below w.heap.size w w7) := ⟨(F5.out.1).step bb, (F5.out.2.1).step bb, (F5.out.2.2.1).step bb, (F5.out.2.2.2).trans (bb.mono (F5.out.2.2.2).size)⟩
  clear F5
  clear bb
  clear l5_0 a5_0_0 f5_0_0 a5_0_1 f5_0_1 a5_0_2 f5_0_2 a5_0_3 f5_0_3 a5_0_4 f5_0_4 a5_0_5 f5_0_5 l5_1 a5_1_0 f5_1_0 a5_1_1 f5_1_1 l5_2 a5_2_0 f5_2_0 a5_2_1 f5_2_1
  have l6_0 := F6.out.1.lt
  have a6_0_0 := F6.out.1.cell 0 _ rfl
  have f6_0_0 := F6.out.1.fz 0
  have a6_0_1 := F6.out.1.cell 1 _ rfl
  have f6_0_1 := F6.out.1.fz 1
  have a6_0_2 := F6.out.1.cell 2 _ rfl
  have f6_0_2 := F6.out.1.fz 2
  have a6_0_3 := F6.out.1.cell 3 _ rfl
  have f6_0_3 := F6.out.1.fz 3
  have a6_0_4 := F6.out.1.cell 4 _ rfl
  have f6_0_4 := F6.out.1.fz 4
  have a6_0_5 := F6.out.1.cell 5 _ rfl
  have f6_0_5 := F6.out.1.fz 5
  have l6_1 := F6.out.2.1.lt
  have a6_1_0 := F6.out.2.1.cell 0 _ rfl
  have f6_1_0 := F6.out.2.1.fz 0
  have a6_1_1 := F6.out.2.1.cell 1 _ rfl
  have f6_1_1 := F6.out.2.1.fz 1
  have l6_2 := F6.out.2.2.1.lt
  have a6_2_0 := F6.out.2.2.1.cell 0 _ rfl
  have f6_2_0 := F6.out.2.2.1.fz 0
  have a6_2_1 := F6.out.2.2.1.cell 1 _ rfl
  have f6_2_1 := F6.out.2.2.1.fz 1
  have ne6_0_1 : ¬ w.heap.size = w.heap.size + 1 := by omega
  have ne6_0_2 : ¬ w.heap.size = w2.heap.size := by omega
  have ne6_1_0 : ¬ w.heap.size + 1 = w.heap.size := by omega
  have ne6_1_2 : ¬ w.heap.size + 1 = w2.heap.size := by omega
  have ne6_2_0 : ¬ w2.heap.size = w.heap.size := by omega
  have ne6_2_1 : ¬ w2.heap.size = w.heap.size + 1 := by omega
  have hq : (u2 == u1) = true := beq_iff_eq.mpr e12
  go_wp2
  refine bodyPost_ret (v := .tuple #[.agg #[.int .u64 u1, .bool true], .bool true]) (by simp [results, Tryz.results75, go_sem, World.cell?_setCell_same, World.cell?_setCell_other, *]) rfl ⟨rfl, ?_⟩
  repeat (first | refine Below.setCell ?_ (by first | exact Nat.le_refl _ | (dsimp only; omega)) _ | refine Below.alloc ?_ (by first | exact Nat.le_refl _ | omega | (simp; omega)) _ | refine Below.drew ?_)
  exact F6.out.2.2.2
theorem qc_five {w : World} {mh ml X p d : Int} {F : Nat} {t h l u1 : Int} {m1 : Bool} (hT : Tab w) {h2 l2 t2 u2 : Int} {m2 cy : Bool} {f5 : Nat} (f0 : 0 < f5) (e12 : u2 ≠ u1) (hm : (F : Int) % (f5 : Int) = 0) (HM : ∀ W, Calls Tryz.prog 115 #[.agg #[.int .u64 mh, .int .u64 ml], .int .u64 (F : Int)] W fun e w' => e = .returned (.tuple #[.int .u64 t, .agg #[.int .u64 h, .int .u64 l]]) ∧ Below W.heap.size W w') (HU : ∀ W, Tab W → Calls Tryz.prog 116 #[.agg #[.int .u64 mh, .int .u64 ml, .int .i64 X, .bool false, .int .i64 p, .int .i64 d], .int .u64 t, .agg #[.int .u64 h, .int .u64 l]] W fun e w' => e = .returned (.tuple #[.int .u64 u1, .bool m1]) ∧ Below W.heap.size W w') (HA : ∀ W, Calls Tryz.prog 117 #[.agg #[.int .u64 h, .int .u64 l], .agg #[.int .u64 0, .int .u64 (F : Int)]] W fun e w' => e = .returned (.tuple #[.agg #[.int .u64 h2, .int .u64 l2], .bool cy]) ∧ Below W.heap.size W w') (hcy : Hid ((cy = false ∧ t = t2) ∨ (cy = true ∧ IntKind.u64.wrap (t + 1) = t2))) (HV : ∀ W, Tab W → Calls Tryz.prog 116 #[.agg #[.int .u64 mh, .int .u64 ml, .int .i64 X, .bool false, .int .i64 p, .int .i64 d], .int .u64 t2, .agg #[.int .u64 h2, .int .u64 l2]] W fun e w' => e = .returned (.tuple #[.int .u64 u2, .bool m2]) ∧ Below W.heap.size W w') (HF : ∀ W, Calls Tryz.prog 118 #[.int .i64 p] W fun e w' => e = .returned (.tuple #[.int .u64 (f5 : Int), .nilIface]) ∧ Below W.heap.size W w') :
 Calls Tryz.prog 75 #[.agg #[.int .u64 mh, .int .u64 ml, .int .i64 X, .bool false, .int .i64 p, .int .i64 d], .int .u64 (F : Int)] w fun x w' => x = .returned (.tuple #[.agg #[.int .u64 u2, .bool false], .bool true]) ∧ Below w.heap.size w w' := by
 have F0 : Hid (Bk ((w.alloc (.cells #[.int .u64 mh, .int .u64 ml, .int .i64 X, .bool false, .int .i64 p, .int .i64 d] 49)).alloc (.cells #[.int .u64 0, .bool false] 82)) (w.heap.size) [.int .u64 mh, .int .u64 ml, .int .i64 X, .bool false, .int .i64 p, .int .i64 d] ∧ Bk ((w.alloc (.cells #[.int .u64 mh, .int .u64 ml, .int .i64 X, .bool false, .int .i64 p, .int .i64 d] 49)).alloc (.cells #[.int .u64 0, .bool false] 82)) (w.heap.size + 1) [.int .u64 0, .bool false] ∧ Below w.heap.size w ((w.alloc (.cells #[.int .u64 mh, .int .u64 ml, .int .i64 X, .bool false, .int .i64 p, .int .i64 d] 49)).alloc (.cells #[.int .u64 0, .bool false] 82))) := ⟨(Bk.newL w [.int .u64 mh, .int .u64 ml, .int .i64 X, .bool false, .int .i64 p, .int .i64 d] 49).step ((Below.refl _ _).alloc (Nat.le_refl _) _), ((by have q := Bk.newL (w.alloc (.cells #[.int .u64 mh, .int .u64 ml, .int .i64 X, .bool false, .int .i64 p, .int .i64 d] 49)) [.int .u64 0, .bool false] 82; simpa using q) : Bk ((w.alloc (.cells #[.int .u64 mh, .int .u64 ml, .int .i64 X, .bool false, .int .i64 p, .int .i64 d] 49)).alloc (.cells #[.int .u64 0, .bool false] 82)) (w.heap.size + 1) [.int .u64 0, .bool false]), (((Below.refl w.heap.size w)).alloc (Nat.le_refl _) _).alloc ((((Below.refl w.heap.size w)).alloc (Nat.le_refl _) _).size) _⟩
 go_enter Tryz.func75, Tryz.ntmps75
 go_upto_region 1 with fail
 generalize ((w.alloc (.cells #[.int .u64 mh, .int .u64 ml, .int .i64 X, .bool false, .int .i64 p, .int .i64 d] 49)).alloc (.cells #[.int .u64 0, .bool false] 82)) = w1 at *
 have l1_0 := F0.out.1.lt
 have a1_0_0 := F0.out.1.cell 0 _ rfl
 have f1_0_0 := F0.out.1.fz 0
 have a1_0_1 := F0.out.1.cell 1 _ rfl
 have f1_0_1 := F0.out.1.fz 1
 have a1_0_2 := F0.out.1.cell 2 _ rfl
 have f1_0_2 := F0.out.1.fz 2
 have a1_0_3 := F0.out.1.cell 3 _ rfl
 have f1_0_3 := F0.out.1.fz 3
 have a1_0_4 := F0.out.1.cell 4 _ rfl
 have f1_0_4 := F0.out.1.fz 4
 have a1_0_5 := F0.out.1.cell 5 _ rfl
 have f1_0_5 := F0.out.1.fz 5
 have l1_1 := F0.out.2.1.lt
 have a1_1_0 := F0.out.2.1.cell 0 _ rfl
 have f1_1_0 := F0.out.2.1.fz 0
 have a1_1_1 := F0.out.2.1.cell 1 _ rfl
 have f1_1_1 := F0.out.2.1.fz 1
 have ne1_0_1 : ¬ w.heap.size = w.heap.size + 1 := by omega
 have ne1_1_0 : ¬ w.heap.size + 1 = w.heap.size := by omega
 go_wp2_with fail
 all_goals first | (exfalso; omega) | skip
 refine (HM _).mono ?_
 rintro o2 w2 ⟨rfl, bb⟩
 have F1 : Hid (Bk w2 (w.heap.size) [.int .u64 mh, .int .u64 ml, .int .i64 X, .bool false, .int .i64 p, .int .i64 d] ∧ Bk w2 (w.heap.size + 1) [.int .u64 0, .bool false] ∧ Below w.heap.size w w2) := ⟨(F0.out.1).step bb, (F0.out.2.1).step bb, (F0.out.2.2).trans (bb.mono (F0.out.2.2).size)⟩
 clear F0
 clear bb
 clear l1_0 a1_0_0 f1_0_0 a1_0_1 f1_0_1 a1_0_2 f1_0_2 a1_0_3 f1_0_3 a1_0_4 f1_0_4 a1_0_5 f1_0_5 l1_1 a1_1_0 f1_1_0 a1_1_1 f1_1_1
 have lt0_2 := (F1.out.1).lt
 have lt1_2 := (F1.out.2.1).lt
 have le2 := (F1.out.2.2).size
 have F2 : Hid (Bk (w2.alloc (.cells #[.int .u64 h, .int .u64 l] 45)) (w.heap.size) [.int .u64 mh, .int .u64 ml, .int .i64 X, .bool false, .int .i64 p, .int .i64 d] ∧ Bk (w2.alloc (.cells #[.int .u64 h, .int .u64 l] 45)) (w.heap.size + 1) [.int .u64 0, .bool false] ∧ Bk (w2.alloc (.cells #[.int .u64 h, .int .u64 l] 45)) (w2.heap.size) [.int .u64 h, .int .u64 l] ∧ Below w.heap.size w (w2.alloc (.cells #[.int .u64 h, .int .u64 l] 45))) := ⟨(F1.out.1).step ((Below.refl _ _).alloc (Nat.le_refl _) _), (F1.out.2.1).step ((Below.refl _ _).alloc (Nat.le_refl _) _), Bk.newL w2 [.int .u64 h, .int .u64 l] 45, (F1.out.2.2).alloc ((F1.out.2.2).size) _⟩
 clear F1
 go_upto_region 2 with fail
 generalize (w2.alloc (.cells #[.int .u64 h, .int .u64 l] 45)) = w3 at *
 have l2_0 := F2.out.1.lt
 have a2_0_0 := F2.out.1.cell 0 _ rfl
 have f2_0_0 := F2.out.1.fz 0
 have a2_0_1 := F2.out.1.cell 1 _ rfl
 have f2_0_1 := F2.out.1.fz 1
 have a2_0_2 := F2.out.1.cell 2 _ rfl
 have f2_0_2 := F2.out.1.fz 2
 have a2_0_3 := F2.out.1.cell 3 _ rfl
 have f2_0_3 := F2.out.1.fz 3
 have a2_0_4 := F2.out.1.cell 4 _ rfl
 have f2_0_4 := F2.out.1.fz 4
 have a2_0_5 := F2.out.1.cell 5 _ rfl
 have f2_0_5 := F2.out.1.fz 5
 have l2_1 := F2.out.2.1.lt
 have a2_1_0 := F2.out.2.1.cell 0 _ rfl
 have f2_1_0 := F2.out.2.1.fz 0
 have a2_1_1 := F2.out.2.1.cell 1 _ rfl
 have f2_1_1 := F2.out.2.1.fz 1
 have l2_2 := F2.out.2.2.1.lt
 have a2_2_0 := F2.out.2.2.1.cell 0 _ rfl
 have f2_2_0 := F2.out.2.2.1.fz 0
 have a2_2_1 := F2.out.2.2.1.cell 1 _ rfl
 have f2_2_1 := F2.out.2.2.1.fz 1
 have ne2_0_1 : ¬ w.heap.size = w.heap.size + 1 := by omega
 have ne2_0_2 : ¬ w.heap.size = w2.heap.size := by omega
 have ne2_1_0 : ¬ w.heap.size + 1 = w.heap.size := by omega
 have ne2_1_2 : ¬ w.heap.size + 1 = w2.heap.size := by omega
 have ne2_2_0 : ¬ w2.heap.size = w.heap.size := by omega
 have ne2_2_1 : ¬ w2.heap.size = w.heap.size + 1 := by omega
 go_wp2_with fail
 all_goals first | (exfalso; omega) | skip
 refine (HU _ (hT.next (F2.out.2.2.2))).mono ?_
 rintro o4 w4 ⟨rfl, bb⟩
 have F3 : Hid (Bk w4 (w.heap.size) [.int .u64 mh, .int .u64 ml, .int .i64 X, .bool false, .int .i64 p, .int .i64 d] ∧ Bk w4 (w.heap.size + 1) [.int .u64 0, .bool false] ∧ Bk w4 (w2.heap.size) [.int .u64 h, .int .u64 l] ∧ Below w.heap.size w w4) := ⟨(F2.out.1).step bb, (F2.out.2.1).step bb, (F2.out.2.2.1).step bb, (F2.out.2.2.2).trans (bb.mono (F2.out.2.2.2).size)⟩
 clear F2
 clear bb
 clear l2_0 a2_0_0 f2_0_0 a2_0_1 f2_0_1 a2_0_2 f2_0_2 a2_0_3 f2_0_3 a2_0_4 f2_0_4 a2_0_5 f2_0_5 l2_1 a2_1_0 f2_1_0 a2_1_1 f2_1_1 l2_2 a2_2_0 f2_2_0 a2_2_1 f2_2_1
 have l3_0 := F3.out.1.lt
 have a3_0_0 := F3.out.1.cell 0 _ rfl
 have f3_0_0 := F3.out.1.fz 0
 have a3_0_1 := F3.out.1.cell 1 _ rfl
 have f3_0_1 := F3.out.1.fz 1
 have a3_0_2 := F3.out.1.cell 2 _ rfl
 have f3_0_2 := F3.out.1.fz 2
 have a3_0_3 := F3.out.1.cell 3 _ rfl
 have f3_0_3 := F3.out.1.fz 3
 have a3_0_4 := F3.out.1.cell 4 _ rfl
 have f3_0_4 := F3.out.1.fz 4
 have a3_0_5 := F3.out.1.cell 5 _ rfl
 have f3_0_5 := F3.out.1.fz 5
 have l3_1 := F3.out.2.1.lt
 have a3_1_0 := F3.out.2.1.cell 0 _ rfl
 have f3_1_0 := F3.out.2.1.fz 0
 have a3_1_1 := F3.out.2.1.cell 1 _ rfl
 have f3_1_1 := F3.out.2.1.fz 1
 have l3_2 := F3.out.2.2.1.lt
 have a3_2_0 := F3.out.2.2.1.cell 0 _ rfl
 have f3_2_0 := F3.out.2.2.1.fz 0
 have a3_2_1 := F3.out.2.2.1.cell 1 _ rfl
 have f3_2_1 := F3.out.2.2.1.fz 1
 have ne3_0_1 : ¬ w.heap.size = w.heap.size + 1 := by omega
 have ne3_0_2 : ¬ w.heap.size = w2.heap.size := by omega
 have ne3_1_0 : ¬ w.heap.size + 1 = w.heap.size := by omega
 have ne3_1_2 : ¬ w.heap.size + 1 = w2.heap.size := by omega
 have ne3_2_0 : ¬ w2.heap.size = w.heap.size := by omega
 have ne3_2_1 : ¬ w2.heap.size = w.heap.size + 1 := by omega
 go_wp2_with fail
 all_goals first | (exfalso; omega) | skip
 refine (HA _).mono ?_
 rintro o5 w5 ⟨rfl, bb⟩
 have F4 : Hid (Bk w5 (w.heap.size) [.int .u64 mh, .int .u64 ml, .int .i64 X, .bool false, .int .i64 p, .int .i64 d] ∧ Bk w5 (w.heap.size + 1) [.int .u64 0, .bool false] ∧ Bk w5 (w2.heap.size) [.int .u64 h, .int .u64 l] ∧ Below w.heap.size w w5) := ⟨(F3.out.1).step bb, (F3.out.2.1).step bb, (F3.out.2.2.1).step bb, (F3.out.2.2.2).trans (bb.mono (F3.out.2.2.2).size)⟩
 clear F3
 clear bb
 clear l3_0 a3_0_0 f3_0_0 a3_0_1 f3_0_1 a3_0_2 f3_0_2 a3_0_3 f3_0_3 a3_0_4 f3_0_4 a3_0_5 f3_0_5 l3_1 a3_1_0 f3_1_0 a3_1_1 f3_1_1 l3_2 a3_2_0 f3_2_0 a3_2_1 f3_2_1
 have l4_0 := F4.out.1.lt
 have a4_0_0 := F4.out.1.cell 0 _ rfl
 have f4_0_0 := F4.out.1.fz 0
 have a4_0_1 := F4.out.1.cell 1 _ rfl
 have f4_0_1 := F4.out.1.fz 1
 have a4_0_2 := F4.out.1.cell 2 _ rfl
 have f4_0_2 := F4.out.1.fz 2
 have a4_0_3 := F4.out.1.cell 3 _ rfl
 have f4_0_3 := F4.out.1.fz 3
 have a4_0_4 := F4.out.1.cell 4 _ rfl
 have f4_0_4 := F4.out.1.fz 4
 have a4_0_5 := F4.out.1.cell 5 _ rfl
 have f4_0_5 := F4.out.1.fz 5
 have l4_1 := F4.out.2.1.lt
 have a4_1_0 := F4.out.2.1.cell 0 _ rfl
 have f4_1_0 := F4.out.2.1.fz 0
 have a4_1_1 := F4.out.2.1.cell 1 _ rfl
 have f4_1_1 := F4.out.2.1.fz 1
 have l4_2 := F4.out.2.2.1.lt
 have a4_2_0 := F4.out.2.2.1.cell 0 _ rfl
 have f4_2_0 := F4.out.2.2.1.fz 0
 have a4_2_1 := F4.out.2.2.1.cell 1 _ rfl
 have f4_2_1 := F4.out.2.2.1.fz 1
 have ne4_0_1 : ¬ w.heap.size = w.heap.size + 1 := by omega
 have ne4_0_2 : ¬ w.heap.size = w2.heap.size := by omega
 have ne4_1_0 : ¬ w.heap.size + 1 = w.heap.size := by omega
 have ne4_1_2 : ¬ w.heap.size + 1 = w2.heap.size := by omega
 have ne4_2_0 : ¬ w2.heap.size = w.heap.size := by omega
 have ne4_2_1 : ¬ w2.heap.size = w.heap.size + 1 := by omega
 rcases hcy.out with ⟨hc, ht⟩ | ⟨hc, ht⟩
 all_goals
  go_upto_region 8 with fail
  clear l4_0 a4_0_0 f4_0_0 a4_0_1 f4_0_1 a4_0_2 f4_0_2 a4_0_3 f4_0_3 a4_0_4 f4_0_4 a4_0_5 f4_0_5 l4_1 a4_1_0 f4_1_0 a4_1_1 f4_1_1 l4_2 a4_2_0 f4_2_0 a4_2_1 f4_2_1
  have F5 : Hid (Bk ((w5.setCell ⟨w2.heap.size, 0, none⟩ (.int .u64 h2)).setCell ⟨w2.heap.size, 1, none⟩ (.int .u64 l2)) (w.heap.size) [.int .u64 mh, .int .u64 ml, .int .i64 X, .bool false, .int .i64 p, .int .i64 d] ∧ Bk ((w5.setCell ⟨w2.heap.size, 0, none⟩ (.int .u64 h2)).setCell ⟨w2.heap.size, 1, none⟩ (.int .u64 l2)) (w.heap.size + 1) [.int .u64 0, .bool false] ∧ Bk ((w5.setCell ⟨w2.heap.size, 0, none⟩ (.int .u64 h2)).setCell ⟨w2.heap.size, 1, none⟩ (.int .u64 l2)) (w2.heap.size) [.int .u64 h2, .int .u64 l2] ∧ Below w.heap.size w ((w5.setCell ⟨w2.heap.size, 0, none⟩ (.int .u64 h2)).setCell ⟨w2.heap.size, 1, none⟩ (.int .u64 l2))) := ⟨((F4.out.1).set1 (by omega) 0 (.int .u64 h2)).set1 (by omega) 1 (.int .u64 l2), ((F4.out.2.1).set1 (by omega) 0 (.int .u64 h2)).set1 (by omega) 1 (.int .u64 l2), (F4.out.2.2.1).fill2 (.int .u64 h2) (.int .u64 l2), ((F4.out.2.2.2).setCell (by dsimp only; omega) (.int .u64 h2)).setCell (by dsimp only; omega) (.int .u64 l2)⟩
  clear F4
  generalize ((w5.setCell ⟨w2.heap.size, 0, none⟩ (.int .u64 h2)).setCell ⟨w2.heap.size, 1, none⟩ (.int .u64 l2)) = w6 at *
  have l5_0 := F5.out.1.lt
  have a5_0_0 := F5.out.1.cell 0 _ rfl
  have f5_0_0 := F5.out.1.fz 0
  have a5_0_1 := F5.out.1.cell 1 _ rfl
  have f5_0_1 := F5.out.1.fz 1
  have a5_0_2 := F5.out.1.cell 2 _ rfl
  have f5_0_2 := F5.out.1.fz 2
  have a5_0_3 := F5.out.1.cell 3 _ rfl
  have f5_0_3 := F5.out.1.fz 3
  have a5_0_4 := F5.out.1.cell 4 _ rfl
  have f5_0_4 := F5.out.1.fz 4
  have a5_0_5 := F5.out.1.cell 5 _ rfl
  have f5_0_5 := F5.out.1.fz 5
  have l5_1 := F5.out.2.1.lt
  have a5_1_0 := F5.out.2.1.cell 0 _ rfl
  have f5_1_0 := F5.out.2.1.fz 0
  have a5_1_1 := F5.out.2.1.cell 1 _ rfl
  have f5_1_1 := F5.out.2.1.fz 1
  have l5_2 := F5.out.2.2.1.lt
  have a5_2_0 := F5.out.2.2.1.cell 0 _ rfl
  have f5_2_0 := F5.out.2.2.1.fz 0
  have a5_2_1 := F5.out.2.2.1.cell 1 _ rfl
  have f5_2_1 := F5.out.2.2.1.fz 1
  have ne5_0_1 : ¬ w.heap.size = w.heap.size + 1 := by omega
  have ne5_0_2 : ¬ w.heap.size = w2.heap.size := by omega
  have ne5_1_0 : ¬ w.heap.size + 1 = w.heap.size := by omega
  have ne5_1_2 : ¬ w.heap.size + 1 = w2.heap.size := by omega
  have ne5_2_0 : ¬ w2.heap.size = w.heap.size := by omega
  have ne5_2_1 : ¬ w2.heap.size = w.heap.size + 1 := by omega
  go_wp2_with fail
  all_goals first | (exfalso; omega) | skip
  refine (HV _ (hT.next F5.out.2.2.2)).mono ?_
  rintro o7 w7 ⟨rfl, bb⟩
  have F6 : Hid (Bk w7 (w.heap.size) [.int .u64 mh, .int .u64 ml, .int .i64 X, .bool false, .int .i64 p, .int .i64 d] ∧ Bk w7 (w.heap.size + 1) [.int .u64 0, .bool false] ∧ Bk w7 (w2.heap.size) [.int .u64 h2, .int .u64 l2] ∧ Below w.heap.size w w7) := ⟨(F5.out.1).step bb, (F5.out.2.1).step bb, (F5.out.2.2.1).step bb, (F5.out.2.2.2).trans (bb.mono (F5.out.2.2.2).size)⟩
  clear F5
  clear bb
  clear l5_0 a5_0_0 f5_0_0 a5_0_1 f5_0_1 a5_0_2 f5_0_2 a5_0_3 f5_0_3 a5_0_4 f5_0_4 a5_0_5 f5_0_5 l5_1 a5_1_0 f5_1_0 a5_1_1 f5_1_1 l5_2 a5_2_0 f5_2_0 a5_2_1 f5_2_1
  have l6_0 := F6.out.1.lt
  have a6_0_0 := F6.out.1.cell 0 _ rfl
  have f6_0_0 := F6.out.1.fz 0
  have a6_0_1 := F6.out.1.cell 1 _ rfl
  have f6_0_1 := F6.out.1.fz 1
  have a6_0_2 := F6.out.1.cell 2 _ rfl
  have f6_0_2 := F6.out.1.fz 2
  have a6_0_3 := F6.out.1.cell 3 _ rfl
  have f6_0_3 := F6.out.1.fz 3
  have a6_0_4 := F6.out.1.cell 4 _ rfl
  have f6_0_4 := F6.out.1.fz 4
  have a6_0_5 := F6.out.1.cell 5 _ rfl
  have f6_0_5 := F6.out.1.fz 5
  have l6_1 := F6.out.2.1.lt
  have a6_1_0 := F6.out.2.1.cell 0 _ rfl
  have f6_1_0 := F6.out.2.1.fz 0
  have a6_1_1 := F6.out.2.1.cell 1 _ rfl
  have f6_1_1 := F6.out.2.1.fz 1
  have l6_2 := F6.out.2.2.1.lt
  have a6_2_0 := F6.out.2.2.1.cell 0 _ rfl
  have f6_2_0 := F6.out.2.2.1.fz 0
  have a6_2_1 := F6.out.2.2.1.cell 1 _ rfl
  have f6_2_1 := F6.out.2.2.1.fz 1
  have ne6_0_1 : ¬ w.heap.size = w.heap.size + 1 := by omega
  have ne6_0_2 : ¬ w.heap.size = w2.heap.size := by omega
  have ne6_1_0 : ¬ w.heap.size + 1 = w.heap.size := by omega
  have ne6_1_2 : ¬ w.heap.size + 1 = w2.heap.size := by omega
  have ne6_2_0 : ¬ w2.heap.size = w.heap.size := by omega
  have ne6_2_1 : ¬ w2.heap.size = w.heap.size + 1 := by omega
  have hq : (u2 == u1) = false := beq_eq_false_iff_ne.mpr e12
  clear e12
  go_wp2_with fail
  all_goals first | (exfalso; omega) | skip
  refine (HF _).mono ?_
  rintro o8 w8 ⟨rfl, bb⟩
  have F7 : Hid (Bk w8 (w.heap.size) [.int .u64 mh, .int .u64 ml, .int .i64 X, .bool false, .int .i64 p, .int .i64 d] ∧ Bk w8 (w.heap.size + 1) [.int .u64 0, .bool false] ∧ Bk w8 (w2.heap.size) [.int .u64 h2, .int .u64 l2] ∧ Below w.heap.size w w8) := ⟨(F6.out.1).step bb, (F6.out.2.1).step bb, (F6.out.2.2.1).step bb, (F6.out.2.2.2).trans (bb.mono (F6.out.2.2.2).size)⟩
  clear F6
  clear bb
  clear l6_0 a6_0_0 f6_0_0 a6_0_1 f6_0_1 a6_0_2 f6_0_2 a6_0_3 f6_0_3 a6_0_4 f6_0_4 a6_0_5 f6_0_5 l6_1 a6_1_0 f6_1_0 a6_1_1 f6_1_1 l6_2 a6_2_0 f6_2_0 a6_2_1 f6_2_1
  have l7_0 := F7.out.1.lt
  have a7_0_0 := F7.out.1.cell 0 _ rfl
  have f7_0_0 := F7.out.1.fz 0
  have a7_0_1 := F7.out.1.cell 1 _ rfl
  have f7_0_1 := F7.out.1.fz 1
  have a7_0_2 := F7.out.1.cell 2 _ rfl
  have f7_0_2 := F7.out.1.fz 2
  have a7_0_3 := F7.out.1.cell 3 _ rfl
  have f7_0_3 := F7.out.1.fz 3
  have a7_0_4 := F7.out.1.cell 4 _ rfl
  have f7_0_4 := F7.out.1.fz 4
  have a7_0_5 := F7.out.1.cell 5 _ rfl
  have f7_0_5 := F7.out.1.fz 5
  have l7_1 := F7.out.2.1.lt
  have a7_1_0 := F7.out.2.1.cell 0 _ rfl
  have f7_1_0 := F7.out.2.1.fz 0
  have a7_1_1 := F7.out.2.1.cell 1 _ rfl
  have f7_1_1 := F7.out.2.1.fz 1
  have l7_2 := F7.out.2.2.1.lt
  have a7_2_0 := F7.out.2.2.1.cell 0 _ rfl
  have f7_2_0 := F7.out.2.2.1.fz 0
  have a7_2_1 := F7.out.2.2.1.cell 1 _ rfl
  have f7_2_1 := F7.out.2.2.1.fz 1
  have ne7_0_1 : ¬ w.heap.size = w.heap.size + 1 := by omega
  have ne7_0_2 : ¬ w.heap.size = w2.heap.size := by omega
  have ne7_1_0 : ¬ w.heap.size + 1 = w.heap.size := by omega
  have ne7_1_2 : ¬ w.heap.size + 1 = w2.heap.size := by omega
  have ne7_2_0 : ¬ w2.heap.size = w.heap.size := by omega
  have ne7_2_1 : ¬ w2.heap.size = w.heap.size + 1 := by omega
  go_wp2
  refine bodyPost_ret (v := .tuple #[.agg #[.int .u64 u2, .bool false], .bool true]) (by simp [results, Tryz.results75, go_sem, World.cell?_setCell_same, World.cell?_setCell_other, *]) rfl ⟨rfl, ?_⟩
  repeat (first | refine Below.setCell ?_ (by first | exact Nat.le_refl _ | (dsimp only; omega)) _ | refine Below.alloc ?_ (by first | exact Nat.le_refl _ | omega | (simp; omega)) _ | refine Below.drew ?_)
  exact F7.out.2.2.2
theorem qc_no {w : World} {mh ml X p d : Int} {F : Nat} {t h l u1 : Int} {m1 : Bool} (hT : Tab w) {h2 l2 t2 u2 : Int} {m2 cy : Bool} {f5 : Nat} (f0 : 0 < f5) (e12 : u2 ≠ u1) (hm : ((F : Int) % (f5 : Int) == 0) = false) (HM : ∀ W, Calls Tryz.prog 115 #[.agg #[.int .u64 mh, .int .u64 ml], .int .u64 (F : Int)] W fun e w' => e = .returned (.tuple #[.int .u64 t, .agg #[.int .u64 h, .int .u64 l]]) ∧ Below W.heap.size W w') (HU : ∀ W, Tab W → Calls Tryz.prog 116 #[.agg #[.int .u64 mh, .int .u64 ml, .int .i64 X, .bool false, .int .i64 p, .int .i64 d], .int .u64 t, .agg #[.int .u64 h, .int .u64 l]] W fun e w' => e = .returned (.tuple #[.int .u64 u1, .bool m1]) ∧ Below W.heap.size W w') (HA : ∀ W, Calls Tryz.prog 117 #[.agg #[.int .u64 h, .int .u64 l], .agg #[.int .u64 0, .int .u64 (F : Int)]] W fun e w' => e = .returned (.tuple #[.agg #[.int .u64 h2, .int .u64 l2], .bool cy]) ∧ Below W.heap.size W w') (hcy : Hid ((cy = false ∧ t = t2) ∨ (cy = true ∧ IntKind.u64.wrap (t + 1) = t2))) (HV : ∀ W, Tab W → Calls Tryz.prog 116 #[.agg #[.int .u64 mh, .int .u64 ml, .int .i64 X, .bool false, .int .i64 p, .int .i64 d], .int .u64 t2, .agg #[.int .u64 h2, .int .u64 l2]] W fun e w' => e = .returned (.tuple #[.int .u64 u2, .bool m2]) ∧ Below W.heap.size W w') (HF : ∀ W, Calls Tryz.prog 118 #[.int .i64 p] W fun e w' => e = .returned (.tuple #[.int .u64 (f5 : Int), .nilIface]) ∧ Below W.heap.size W w') :
 Calls Tryz.prog 75 #[.agg #[.int .u64 mh, .int .u64 ml, .int .i64 X, .bool false, .int .i64 p, .int .i64 d], .int .u64 (F : Int)] w fun x w' => x = .returned (.tuple #[.agg #[.int .u64 0, .bool false], .bool false]) ∧ Below w.heap.size w w' := by
 have F0 : Hid (Bk ((w.alloc (.cells #[.int .u64 mh, .int .u64 ml, .int .i64 X, .bool false, .int .i64 p, .int .i64 d] 49)).alloc (.cells #[.int .u64 0, .bool false] 82)) (w.heap.size) [.int .u64 mh, .int .u64 ml, .int .i64 X, .bool false, .int .i64 p, .int .i64 d] ∧ Bk ((w.alloc (.cells #[.int .u64 mh, .int .u64 ml, .int .i64 X, .bool false, .int .i64 p, .int .i64 d] 49)).alloc (.cells #[.int .u64 0, .bool false] 82)) (w.heap.size + 1) [.int .u64 0, .bool false] ∧ Below w.heap.size w ((w.alloc (.cells #[.int .u64 mh, .int .u64 ml, .int .i64 X, .bool false, .int .i64 p, .int .i64 d] 49)).alloc (.cells #[.int .u64 0, .bool false] 82))) := ⟨(Bk.newL w [.int .u64 mh, .int .u64 ml, .int .i64 X, .bool false, .int .i64 p, .int .i64 d] 49).step ((Below.refl _ _).alloc (Nat.le_refl _) _), ((by have q := Bk.newL (w.alloc (.cells #[.int .u64 mh, .int .u64 ml, .int .i64 X, .bool false, .int .i64 p, .int .i64 d] 49)) [.int .u64 0, .bool false] 82; simpa using q) : Bk ((w.alloc (.cells #[.int .u64 mh, .int .u64 ml, .int .i64 X, .bool false, .int .i64 p, .int .i64 d] 49)).alloc (.cells #[.int .u64 0, .bool false] 82)) (w.heap.size + 1) [.int .u64 0, .bool false]), (((Below.refl w.heap.size w)).alloc (Nat.le_refl _) _).alloc ((((Below.refl w.heap.size w)).alloc (Nat.le_refl _) _).size) _⟩
 go_enter Tryz.func75, Tryz.ntmps75
 go_upto_region 1 with fail
 generalize ((w.alloc (.cells #[.int .u64 mh, .int .u64 ml, .int .i64 X, .bool false, .int .i64 p, .int .i64 d] 49)).alloc (.cells #[.int .u64 0, .bool false] 82)) = w1 at *
 have l1_0 := F0.out.1.lt
 have a1_0_0 := F0.out.1.cell 0 _ rfl
 have f1_0_0 := F0.out.1.fz 0
 have a1_0_1 := F0.out.1.cell 1 _ rfl
 have f1_0_1 := F0.out.1.fz 1
 have a1_0_2 := F0.out.1.cell 2 _ rfl
 have f1_0_2 := F0.out.1.fz 2
 have a1_0_3 := F0.out.1.cell 3 _ rfl
 have f1_0_3 := F0.out.1.fz 3
 have a1_0_4 := F0.out.1.cell 4 _ rfl
 have f1_0_4 := F0.out.1.fz 4
 have a1_0_5 := F0.out.1.cell 5 _ rfl
 have f1_0_5 := F0.out.1.fz 5
 have l1_1 := F0.out.2.1.lt
 have a1_1_0 := F0.out.2.1.cell 0 _ rfl
 have f1_1_0 := F0.out.2.1.fz 0
 have a1_1_1 := F0.out.2.1.cell 1 _ rfl
 have f1_1_1 := F0.out.2.1.fz 1
 have ne1_0_1 : ¬ w.heap.size = w.heap.size + 1 := by omega
 have ne1_1_0 : ¬ w.heap.size + 1 = w.heap.size := by omega
 go_wp2_with fail
 all_goals first | (exfalso; omega) | skip
 refine (HM _).mono ?_
 rintro o2 w2 ⟨rfl, bb⟩
 have F1 : Hid (Bk w2 (w.heap.size) [.int .u64 mh, .int .u64 ml, .int .i64 X, .bool false, .int .i64 p, .int .i64 d] ∧ Bk w2 (w.heap.size + 1) [.int .u64 0, .bool false] ∧ Below w.heap.size w w2) := ⟨(F0.out.1).step bb, (F0.out.2.1).step bb, (F0.out.2.2).trans (bb.mono (F0.out.2.2).size)⟩
 clear F0
 clear bb
 clear l1_0 a1_0_0 f1_0_0 a1_0_1 f1_0_1 a1_0_2 f1_0_2 a1_0_3 f1_0_3 a1_0_4 f1_0_4 a1_0_5 f1_0_5 l1_1 a1_1_0 f1_1_0 a1_1_1 f1_1_1
 have lt0_2 := (F1.out.1).lt
 have lt1_2 := (F1.out.2.1).lt
 have le2 := (F1.out.2.2).size
 have F2 : Hid (Bk (w2.alloc (.cells #[.int .u64 h, .int .u64 l] 45)) (w.heap.size) [.int .u64 mh, .int .u64 ml, .int .i64 X, .bool false, .int .i64 p, .int .i64 d] ∧ Bk (w2.alloc (.cells #[.int .u64 h, .int .u64 l] 45)) (w.heap.size + 1) [.int .u64 0, .bool false] ∧ Bk (w2.alloc (.cells #[.int .u64 h, .int .u64 l] 45)) (w2.heap.size) [.int .u64 h, .int .u64 l] ∧ Below w.heap.size w (w2.alloc (.cells #[.int .u64 h, .int .u64 l] 45))) := ⟨(F1.out.1).step ((Below.refl _ _).alloc (Nat.le_refl _) _), (F1.out.2.1).step ((Below.refl _ _).alloc (Nat.le_refl _) _), Bk.newL w2 [.int .u64 h, .int .u64 l] 45, (F1.out.2.2).alloc ((F1.out.2.2).size) _⟩
 clear F1
 go_upto_region 2 with fail
 generalize (w2.alloc (.cells #[.int .u64 h, .int .u64 l] 45)) = w3 at *
 have l2_0 := F2.out.1.lt
 have a2_0_0 := F2.out.1.cell 0 _ rfl
 have f2_0_0 := F2.out.1.fz 0
 have a2_0_1 := F2.out.1.cell 1 _ rfl
 have f2_0_1 := F2.out.1.fz 1
 have a2_0_2 := F2.out.1.cell 2 _ rfl
 have f2_0_2 := F2.out.1.fz 2
 have a2_0_3 := F2.out.1.cell 3 _ rfl
 have f2_0_3 := F2.out.1.fz 3
 have a2_0_4 := F2.out.1.cell 4 _ rfl
 have f2_0_4 := F2.out.1.fz 4
 have a2_0_5 := F2.out.1.cell 5 _ rfl
 have f2_0_5 := F2.out.1.fz 5
 have l2_1 := F2.out.2.1.lt
 have a2_1_0 := F2.out.2.1.cell 0 _ rfl
 have f2_1_0 := F2.out.2.1.fz 0
 have a2_1_1 := F2.out.2.1.cell 1 _ rfl
 have f2_1_1 := F2.out.2.1.fz 1
 have l2_2 := F2.out.2.2.1.lt
 have a2_2_0 := F2.out.2.2.1.cell 0 _ rfl
 have f2_2_0 := F2.out.2.2.1.fz 0
 have a2_2_1 := F2.out.2.2.1.cell 1 _ rfl
 have f2_2_1 := F2.out.2.2.1.fz 1
 have ne2_0_1 : ¬ w.heap.size = w.heap.size + 1 := by omega
 have ne2_0_2 : ¬ w.heap.size = w2.heap.size := by omega
 have ne2_1_0 : ¬ w.heap.size + 1 = w.heap.size := by omega
 have ne2_1_2 : ¬ w.heap.size + 1 = w2.heap.size := by omega
 have ne2_2_0 : ¬ w2.heap.size = w.heap.size := by omega
 have ne2_2_1 : ¬ w2.heap.size = w.heap.size + 1 := by omega
 go_wp2_with fail
 all_goals first | (exfalso; omega) | skip
 refine (HU _ (hT.next (F2.out.2.2.2))).mono ?_
 rintro o4 w4 ⟨rfl, bb⟩
 have F3 : Hid (Bk w4 (w.heap.size) [.int .u64 mh, .int .u64 ml, .int .i64 X, .bool false, .int .i64 p, .int .i64 d] ∧ Bk w4 (w.heap.size + 1) [.int .u64 0, .bool false] ∧ Bk w4 (w2.heap.size) [.int .u64 h, .int .u64 l] ∧ Below w.heap.size w w4) := ⟨(F2.out.1).step bb, (F2.out.2.1).step bb, (F2.out.2.2.1).step bb, (F2.out.2.2.2).trans (bb.mono (F2.out.2.2.2).size)⟩
 clear F2
 clear bb
 clear l2_0 a2_0_0 f2_0_0 a2_0_1 f2_0_1 a2_0_2 f2_0_2 a2_0_3 f2_0_3 a2_0_4 f2_0_4 a2_0_5 f2_0_5 l2_1 a2_1_0 f2_1_0 a2_1_1 f2_1_1 l2_2 a2_2_0 f2_2_0 a2_2_1 f2_2_1
 have l3_0 := F3.out.1.lt
 have a3_0_0 := F3.out.1.cell 0 _ rfl
 have f3_0_0 := F3.out.1.fz 0
 have a3_0_1 := F3.out.1.cell 1 _ rfl
 have f3_0_1 := F3.out.1.fz 1
 have a3_0_2 := F3.out.1.cell 2 _ rfl
 have f3_0_2 := F3.out.1.fz 2
 have a3_0_3 := F3.out.1.cell 3 _ rfl
 have f3_0_3 := F3.out.1.fz 3
 have a3_0_4 := F3.out.1.cell 4 _ rfl
 have f3_0_4 := F3.out.1.fz 4
 have a3_0_5 := F3.out.1.cell 5 _ rfl
 have f3_0_5 := F3.out.1.fz 5
 have l3_1 := F3.out.2.1.lt
 have a3_1_0 := F3.out.2.1.cell 0 _ rfl
 have f3_1_0 := F3.out.2.1.fz 0
 have a3_1_1 := F3.out.2.1.cell 1 _ rfl
 have f3_1_1 := F3.out.2.1.fz 1
 have l3_2 := F3.out.2.2.1.lt
 have a3_2_0 := F3.out.2.2.1.cell 0 _ rfl
 have f3_2_0 := F3.out.2.2.1.fz 0
 have a3_2_1 := F3.out.2.2.1.cell 1 _ rfl
 have f3_2_1 := F3.out.2.2.1.fz 1
 have ne3_0_1 : ¬ w.heap.size = w.heap.size + 1 := by omega
 have ne3_0_2 : ¬ w.heap.size = w2.heap.size := by omega
 have ne3_1_0 : ¬ w.heap.size + 1 = w.heap.size := by omega
 have ne3_1_2 : ¬ w.heap.size + 1 = w2.heap.size := by omega
 have ne3_2_0 : ¬ w2.heap.size = w.heap.size := by omega
 have ne3_2_1 : ¬ w2.heap.size = w.heap.size + 1 := by omega
 go_wp2_with fail
 all_goals first | (exfalso; omega) | skip
 refine (HA _).mono ?_
 rintro o5 w5 ⟨rfl, bb⟩
 have F4 : Hid (Bk w5 (w.heap.size) [.int .u64 mh, .int .u64 ml, .int .i64 X, .bool false, .int .i64 p, .int .i64 d] ∧ Bk w5 (w.heap.size + 1) [.int .u64 0, .bool false] ∧ Bk w5 (w2.heap.size) [.int .u64 h, .int .u64 l] ∧ Below w.heap.size w w5) := ⟨(F3.out.1).step bb, (F3.out.2.1).step bb, (F3.out.2.2.1).step bb, (F3.out.2.2.2).trans (bb.mono (F3.out.2.2.2).size)⟩
 clear F3
 clear bb
 clear l3_0 a3_0_0 f3_0_0 a3_0_1 f3_0_1 a3_0_2 f3_0_2 a3_0_3 f3_0_3 a3_0_4 f3_0_4 a3_0_5 f3_0_5 l3_1 a3_1_0 f3_1_0 a3_1_1 f3_1_1 l3_2 a3_2_0 f3_2_0 a3_2_1 f3_2_1
 have l4_0 := F4.out.1.lt
 have a4_0_0 := F4.out.1.cell 0 _ rfl
 have f4_0_0 := F4.out.1.fz 0
 have a4_0_1 := F4.out.1.cell 1 _ rfl
 have f4_0_1 := F4.out.1.fz 1
 have a4_0_2 := F4.out.1.cell 2 _ rfl
 have f4_0_2 := F4.out.1.fz 2
 have a4_0_3 := F4.out.1.cell 3 _ rfl
 have f4_0_3 := F4.out.1.fz 3
 have a4_0_4 := F4.out.1.cell 4 _ rfl
 have f4_0_4 := F4.out.1.fz 4
 have a4_0_5 := F4.out.1.cell 5 _ rfl
 have f4_0_5 := F4.out.1.fz 5
 have l4_1 := F4.out.2.1.lt
 have a4_1_0 := F4.out.2.1.cell 0 _ rfl
 have f4_1_0 := F4.out.2.1.fz 0
 have a4_1_1 := F4.out.2.1.cell 1 _ rfl
 have f4_1_1 := F4.out.2.1.fz 1
 have l4_2 := F4.out.2.2.1.lt
 have a4_2_0 := F4.out.2.2.1.cell 0 _ rfl
 have f4_2_0 := F4.out.2.2.1.fz 0
 have a4_2_1 := F4.out.2.2.1.cell 1 _ rfl
 have f4_2_1 := F4.out.2.2.1.fz 1
 have ne4_0_1 : ¬ w.heap.size = w.heap.size + 1 := by omega
 have ne4_0_2 : ¬ w.heap.size = w2.heap.size := by omega
 have ne4_1_0 : ¬ w.heap.size + 1 = w.heap.size := by omega
 have ne4_1_2 : ¬ w.heap.size + 1 = w2.heap.size := by omega
 have ne4_2_0 : ¬ w2.heap.size = w.heap.size := by omega
 have ne4_2_1 : ¬ w2.heap.size = w.heap.size + 1 := by omega
 rcases hcy.out with ⟨hc, ht⟩ | ⟨hc, ht⟩
 all_goals
  go_upto_region 8 with fail
  clear l4_0 a4_0_0 f4_0_0 a4_0_1 f4_0_1 a4_0_2 f4_0_2 a4_0_3 f4_0_3 a4_0_4 f4_0_4 a4_0_5 f4_0_5 l4_1 a4_1_0 f4_1_0 a4_1_1 f4_1_1 l4_2 a4_2_0 f4_2_0 a4_2_1 f4_2_1
  have F5 : Hid (Bk ((w5.setCell ⟨w2.heap.size, 0, none⟩ (.int .u64 h2)).setCell ⟨w2.heap.size, 1, none⟩ (.int .u64 l2)) (w.heap.size) [.int .u64 mh, .int .u64 ml, .int .i64 X, .bool false, .int .i64 p, .int .i64 d] ∧ Bk ((w5.setCell ⟨w2.heap.size, 0, none⟩ (.int .u64 h2)).setCell ⟨w2.heap.size, 1, none⟩ (.int .u64 l2)) (w.heap.size + 1) [.int .u64 0, .bool false] ∧ Bk ((w5.setCell ⟨w2.heap.size, 0, none⟩ (.int .u64 h2)).setCell ⟨w2.heap.size, 1, none⟩ (.int .u64 l2)) (w2.heap.size) [.int .u64 h2, .int .u64 l2] ∧ Below w.heap.size w ((w5.setCell ⟨w2.heap.size, 0, none⟩ (.int .u64 h2)).setCell ⟨w2.heap.size, 1, none⟩ (.int .u64 l2))) := ⟨((F4.out.1).set1 (by omega) 0 (.int .u64 h2)).set1 (by omega) 1 (.int .u64 l2), ((F4.out.2.1).set1 (by omega) 0 (.int .u64 h2)).set1 (by omega) 1 (.int .u64 l2), (F4.out.2.2.1).fill2 (.int .u64 h2) (.int .u64 l2), ((F4.out.2.2.2).setCell (by dsimp only; omega) (.int .u64 h2)).setCell (by dsimp only; omega) (.int .u64 l2)⟩
  clear F4
  generalize ((w5.setCell ⟨w2.heap.size, 0, none⟩ (.int .u64 h2)).setCell ⟨w2.heap.size, 1, none⟩ (.int .u64 l2)) = w6 at *
  have l5_0 := F5.out.1.lt
  have a5_0_0 := F5.out.1.cell 0 _ rfl
  have f5_0_0 := F5.out.1.fz 0
  have a5_0_1 := F5.out.1.cell 1 _ rfl
  have f5_0_1 := F5.out.1.fz 1
  have a5_0_2 := F5.out.1.cell 2 _ rfl
  have f5_0_2 := F5.out.1.fz 2
  have a5_0_3 := F5.out.1.cell 3 _ rfl
  have f5_0_3 := F5.out.1.fz 3
  have a5_0_4 := F5.out.1.cell 4 _ rfl
  have f5_0_4 := F5.out.1.fz 4
  have a5_0_5 := F5.out.1.cell 5 _ rfl
  have f5_0_5 := F5.out.1.fz 5
  have l5_1 := F5.out.2.1.lt
  have a5_1_0 := F5.out.2.1.cell 0 _ rfl
  have f5_1_0 := F5.out.2.1.fz 0
  have a5_1_1 := F5.out.2.1.cell 1 _ rfl
  have f5_1_1 := F5.out.2.1.fz 1
  have l5_2 := F5.out.2.2.1.lt
  have a5_2_0 := F5.out.2.2.1.cell 0 _ rfl
  have f5_2_0 := F5.out.2.2.1.fz 0
  have a5_2_1 := F5.out.2.2.1.cell 1 _ rfl
  have f5_2_1 := F5.out.2.2.1.fz 1
  have ne5_0_1 : ¬ w.heap.size = w.heap.size + 1 := by omega
  have ne5_0_2 : ¬ w.heap.size = w2.heap.size := by omega
  have ne5_1_0 : ¬ w.heap.size + 1 = w.heap.size := by omega
  have ne5_1_2 : ¬ w.heap.size + 1 = w2.heap.size := by omega
  have ne5_2_0 : ¬ w2.heap.size = w.heap.size := by omega
  have ne5_2_1 : ¬ w2.heap.size = w.heap.size + 1 := by omega
  go_wp2_with fail
  all_goals first | (exfalso; omega) | skip
  refine (HV _ (hT.next F5.out.2.2.2)).mono ?_
  rintro o7 w7 ⟨rfl, bb⟩
  have F6 : Hid (Bk w7 (w.heap.size) [.int .u64 mh, .int .u64 ml, .int .i64 X, .bool false, .int .i64 p, .int .i64 d] ∧ Bk w7 (w.heap.size + 1) [.int .u64 0, .bool false] ∧ Bk w7 (w2.heap.size) [.int .u64 h2, .int .u64 l2] ∧ Below w.heap.size w w7) := ⟨(F5.out.1).step bb, (F5.out.2.1).step bb, (F5.out.2.2.1).step bb, (F5.out.2.2.2).trans (bb.mono (F5.out.2.2.2).size)⟩
  clear F5
  clear bb
  clear l5_0 a5_0_0 f5_0_0 a5_0_1 f5_0_1 a5_0_2 f5_0_2 a5_0_3 f5_0_3 a5_0_4 f5_0_4 a5_0_5 f5_0_5 l5_1 a5_1_0 f5_1_0 a5_1_1 f5_1_1 l5_2 a5_2_0 f5_2_0 a5_2_1 f5_2_1
  have l6_0 := F6.out.1.lt
  have a6_0_0 := F6.out.1.cell 0 _ rfl
  have f6_0_0 := F6.out.1.fz 0
  have a6_0_1 := F6.out.1.cell 1 _ rfl
  have f6_0_1 := F6.out.1.fz 1
  have a6_0_2 := F6.out.1.cell 2 _ rfl
  have f6_0_2 := F6.out.1.fz 2
  have a6_0_3 := F6.out.1.cell 3 _ rfl
  have f6_0_3 := F6.out.1.fz 3
  have a6_0_4 := F6.out.1.cell 4 _ rfl
  have f6_0_4 := F6.out.1.fz 4
  have a6_0_5 := F6.out.1.cell 5 _ rfl
  have f6_0_5 := F6.out.1.fz 5
  have l6_1 := F6.out.2.1.lt
  have a6_1_0 := F6.out.2.1.cell 0 _ rfl
  have f6_1_0 := F6.out.2.1.fz 0
  have a6_1_1 := F6.out.2.1.cell 1 _ rfl
  have f6_1_1 := F6.out.2.1.fz 1
  have l6_2 := F6.out.2.2.1.lt
  have a6_2_0 := F6.out.2.2.1.cell 0 _ rfl
  have f6_2_0 := F6.out.2.2.1.fz 0
  have a6_2_1 := F6.out.2.2.1.cell 1 _ rfl
  have f6_2_1 := F6.out.2.2.1.fz 1
  have ne6_0_1 : ¬ w.heap.size = w.heap.size + 1 := by omega
  have ne6_0_2 : ¬ w.heap.size = w2.heap.size := by omega
  have ne6_1_0 : ¬ w.heap.size + 1 = w.heap.size := by omega
  have ne6_1_2 : ¬ w.heap.size + 1 = w2.heap.size := by omega
  have ne6_2_0 : ¬ w2.heap.size = w.heap.size := by omega
  have ne6_2_1 : ¬ w2.heap.size = w.heap.size + 1 := by omega
  have hq : (u2 == u1) = false := beq_eq_false_iff_ne.mpr e12
  clear e12
  go_wp2_with fail
  all_goals first | (exfalso; omega) | skip
  refine (HF _).mono ?_
  rintro o8 w8 ⟨rfl, bb⟩
  have F7 : Hid (Bk w8 (w.heap.size) [.int .u64 mh, .int .u64 ml, .int .i64 X, .bool false, .int .i64 p, .int .i64 d] ∧ Bk w8 (w.heap.size + 1) [.int .u64 0, .bool false] ∧ Bk w8 (w2.heap.size) [.int .u64 h2, .int .u64 l2] ∧ Below w.heap.size w w8) := ⟨(F6.out.1).step bb, (F6.out.2.1).step bb, (F6.out.2.2.1).step bb, (F6.out.2.2.2).trans (bb.mono (F6.out.2.2.2).size)⟩
  clear F6
  clear bb
  clear l6_0 a6_0_0 f6_0_0 a6_0_1 f6_0_1 a6_0_2 f6_0_2 a6_0_3 f6_0_3 a6_0_4 f6_0_4 a6_0_5 f6_0_5 l6_1 a6_1_0 f6_1_0 a6_1_1 f6_1_1 l6_2 a6_2_0 f6_2_0 a6_2_1 f6_2_1
  have l7_0 := F7.out.1.lt
  have a7_0_0 := F7.out.1.cell 0 _ rfl
  have f7_0_0 := F7.out.1.fz 0
  have a7_0_1 := F7.out.1.cell 1 _ rfl
  have f7_0_1 := F7.out.1.fz 1
  have a7_0_2 := F7.out.1.cell 2 _ rfl
  have f7_0_2 := F7.out.1.fz 2
  have a7_0_3 := F7.out.1.cell 3 _ rfl
  have f7_0_3 := F7.out.1.fz 3
  have a7_0_4 := F7.out.1.cell 4 _ rfl
  have f7_0_4 := F7.out.1.fz 4
  have a7_0_5 := F7.out.1.cell 5 _ rfl
  have f7_0_5 := F7.out.1.fz 5
  have l7_1 := F7.out.2.1.lt
  have a7_1_0 := F7.out.2.1.cell 0 _ rfl
  have f7_1_0 := F7.out.2.1.fz 0
  have a7_1_1 := F7.out.2.1.cell 1 _ rfl
  have f7_1_1 := F7.out.2.1.fz 1
  have l7_2 := F7.out.2.2.1.lt
  have a7_2_0 := F7.out.2.2.1.cell 0 _ rfl
  have f7_2_0 := F7.out.2.2.1.fz 0
  have a7_2_1 := F7.out.2.2.1.cell 1 _ rfl
  have f7_2_1 := F7.out.2.2.1.fz 1
  have ne7_0_1 : ¬ w.heap.size = w.heap.size + 1 := by omega
  have ne7_0_2 : ¬ w.heap.size = w2.heap.size := by omega
  have ne7_1_0 : ¬ w.heap.size + 1 = w.heap.size := by omega
  have ne7_1_2 : ¬ w.heap.size + 1 = w2.heap.size := by omega
  have ne7_2_0 : ¬ w2.heap.size = w.heap.size := by omega
  have ne7_2_1 : ¬ w2.heap.size = w.heap.size + 1 := by omega
  go_wp2
  refine bodyPost_ret (v := .tuple #[.agg #[.int .u64 0, .bool false], .bool false]) (by simp [results, Tryz.results75, go_sem, World.cell?_setCell_same, World.cell?_setCell_other, *]) rfl ⟨rfl, ?_⟩
  repeat (first | refine Below.setCell ?_ (by first | exact Nat.le_refl _ | (dsimp only; omega)) _ | refine Below.alloc ?_ (by first | exact Nat.le_refl _ | omega | (simp; omega)) _ | refine Below.drew ?_)
  exact F7.out.2.2.2
theorem qc_err {w : World} {mh ml X p d : Int} {F : Nat} {t h l u1 : Int} {m1 : Bool} (hT : Tab w) {h2 l2 t2 u2 : Int} {m2 cy : Bool} {f5 : Nat} {T : TypeId} {V : Value} (e12 : u2 ≠ u1) (HM : ∀ W, Calls Tryz.prog 115 #[.agg #[.int .u64 mh, .int .u64 ml], .int .u64 (F : Int)] W fun e w' => e = .returned (.tuple #[.int .u64 t, .agg #[.int .u64 h, .int .u64 l]]) ∧ Below W.heap.size W w') (HU : ∀ W, Tab W → Calls Tryz.prog 116 #[.agg #[.int .u64 mh, .int .u64 ml, .int .i64 X, .bool false, .int .i64 p, .int .i64 d], .int .u64 t, .agg #[.int .u64 h, .int .u64 l]] W fun e w' => e = .returned (.tuple #[.int .u64 u1, .bool m1]) ∧ Below W.heap.size W w') (HA : ∀ W, Calls Tryz.prog 117 #[.agg #[.int .u64 h, .int .u64 l], .agg #[.int .u64 0, .int .u64 (F : Int)]] W fun e w' => e = .returned (.tuple #[.agg #[.int .u64 h2, .int .u64 l2], .bool cy]) ∧ Below W.heap.size W w') (hcy : Hid ((cy = false ∧ t = t2) ∨ (cy = true ∧ IntKind.u64.wrap (t + 1) = t2))) (HV : ∀ W, Tab W → Calls Tryz.prog 116 #[.agg #[.int .u64 mh, .int .u64 ml, .int .i64 X, .bool false, .int .i64 p, .int .i64 d], .int .u64 t2, .agg #[.int .u64 h2, .int .u64 l2]] W fun e w' => e = .returned (.tuple #[.int .u64 u2, .bool m2]) ∧ Below W.heap.size W w') (HF : ∀ W, Calls Tryz.prog 118 #[.int .i64 p] W fun e w' => e = .returned (.tuple #[.int .u64 (f5 : Int), .iface T V]) ∧ Below W.heap.size W w') :
 Calls Tryz.prog 75 #[.agg #[.int .u64 mh, .int .u64 ml, .int .i64 X, .bool false, .int .i64 p, .int .i64 d], .int .u64 (F : Int)] w fun x w' => x = .returned (.tuple #[.agg #[.int .u64 0, .bool false], .bool false]) ∧ Below w.heap.size w w' := by
 have F0 : Hid (Bk ((w.alloc (.cells #[.int .u64 mh, .int .u64 ml, .int .i64 X, .bool false, .int .i64 p, .int .i64 d] 49)).alloc (.cells #[.int .u64 0, .bool false] 82)) (w.heap.size) [.int .u64 mh, .int .u64 ml, .int .i64 X, .bool false, .int .i64 p, .int .i64 d] ∧ Bk ((w.alloc (.cells #[.int .u64 mh, .int .u64 ml, .int .i64 X, .bool false, .int .i64 p, .int .i64 d] 49)).alloc (.cells #[.int .u64 0, .bool false] 82)) (w.heap.size + 1) [.int .u64 0, .bool false] ∧ Below w.heap.size w ((w.alloc (.cells #[.int .u64 mh, .int .u64 ml, .int .i64 X, .bool false, .int .i64 p, .int .i64 d] 49)).alloc (.cells #[.int .u64 0, .bool false] 82))) := ⟨(Bk.newL w [.int .u64 mh, .int .u64 ml, .int .i64 X, .bool false, .int .i64 p, .int .i64 d] 49).step ((Below.refl _ _).alloc (Nat.le_refl _) _), ((by have q := Bk.newL (w.alloc (.cells #[.int .u64 mh, .int .u64 ml, .int .i64 X, .bool false, .int .i64 p, .int .i64 d] 49)) [.int .u64 0, .bool false] 82; simpa using q) : Bk ((w.alloc (.cells #[.int .u64 mh, .int .u64 ml, .int .i64 X, .bool false, .int .i64 p, .int .i64 d] 49)).alloc (.cells #[.int .u64 0, .bool false] 82)) (w.heap.size + 1) [.int .u64 0, .bool false]), (((Below.refl w.heap.size w)).alloc (Nat.le_refl _) _).alloc ((((Below.refl w.heap.size w)).alloc (Nat.le_refl _) _).size) _⟩
 go_enter Tryz.func75, Tryz.ntmps75
 go_upto_region 1 with fail
 generalize ((w.alloc (.cells #[.int .u64 mh, .int .u64 ml, .int .i64 X, .bool false, .int .i64 p, .int .i64 d] 49)).alloc (.cells #[.int .u64 0, .bool false] 82)) = w1 at *
 have l1_0 := F0.out.1.lt
 have a1_0_0 := F0.out.1.cell 0 _ rfl
 have f1_0_0 := F0.out.1.fz 0
 have a1_0_1 := F0.out.1.cell 1 _ rfl
 have f1_0_1 := F0.out.1.fz 1
 have a1_0_2 := F0.out.1.cell 2 _ rfl
 have f1_0_2 := F0.out.1.fz 2
 have a1_0_3 := F0.out.1.cell 3 _ rfl
 have f1_0_3 := F0.out.1.fz 3
 have a1_0_4 := F0.out.1.cell 4 _ rfl
 have f1_0_4 := F0.out.1.fz 4
 have a1_0_5 := F0.out.1.cell 5 _ rfl
 have f1_0_5 := F0.out.1.fz 5
 have l1_1 := F0.out.2.1.lt
 have a1_1_0 := F0.out.2.1.cell 0 _ rfl
 have f1_1_0 := F0.out.2.1.fz 0
 have a1_1_1 := F0.out.2.1.cell 1 _ rfl
 have f1_1_1 := F0.out.2.1.fz 1
 have ne1_0_1 : ¬ w.heap.size = w.heap.size + 1 := by omega
 have ne1_1_0 : ¬ w.heap.size + 1 = w.heap.size := by omega
 go_wp2_with fail
 all_goals first | (exfalso; omega) | skip
 refine (HM _).mono ?_
 rintro o2 w2 ⟨rfl, bb⟩
 have F1 : Hid (Bk w2 (w.heap.size) [.int .u64 mh, .int .u64 ml, .int .i64 X, .bool false, .int .i64 p, .int .i64 d] ∧ Bk w2 (w.heap.size + 1) [.int .u64 0, .bool false] ∧ Below w.heap.size w w2) := ⟨(F0.out.1).step bb, (F0.out.2.1).step bb, (F0.out.2.2).trans (bb.mono (F0.out.2.2).size)⟩
 clear F0
 clear bb
 clear l1_0 a1_0_0 f1_0_0 a1_0_1 f1_0_1 a1_0_2 f1_0_2 a1_0_3 f1_0_3 a1_0_4 f1_0_4 a1_0_5 f1_0_5 l1_1 a1_1_0 f1_1_0 a1_1_1 f1_1_1
 have lt0_2 := (F1.out.1).lt
 have lt1_2 := (F1.out.2.1).lt
 have le2 := (F1.out.2.2).size
 have F2 : Hid (Bk (w2.alloc (.cells #[.int .u64 h, .int .u64 l] 45)) (w.heap.size) [.int .u64 mh, .int .u64 ml, .int .i64 X, .bool false, .int .i64 p, .int .i64 d] ∧ Bk (w2.alloc (.cells #[.int .u64 h, .int .u64 l] 45)) (w.heap.size + 1) [.int .u64 0, .bool false] ∧ Bk (w2.alloc (.cells #[.int .u64 h, .int .u64 l] 45)) (w2.heap.size) [.int .u64 h, .int .u64 l] ∧ Below w.heap.size w (w2.alloc (.cells #[.int .u64 h, .int .u64 l] 45))) := ⟨(F1.out.1).step ((Below.refl _ _).alloc (Nat.le_refl _) _), (F1.out.2.1).step ((Below.refl _ _).alloc (Nat.le_refl _) _), Bk.newL w2 [.int .u64 h, .int .u64 l] 45, (F1.out.2.2).alloc ((F1.out.2.2).size) _⟩
 clear F1
 go_upto_region 2 with fail
 generalize (w2.alloc (.cells #[.int .u64 h, .int .u64 l] 45)) = w3 at *
 have l2_0 := F2.out.1.lt
 have a2_0_0 := F2.out.1.cell 0 _ rfl
 have f2_0_0 := F2.out.1.fz 0
 have a2_0_1 := F2.out.1.cell 1 _ rfl
 have f2_0_1 := F2.out.1.fz 1
 have a2_0_2 := F2.out.1.cell 2 _ rfl
 have f2_0_2 := F2.out.1.fz 2
 have a2_0_3 := F2.out.1.cell 3 _ rfl
 have f2_0_3 := F2.out.1.fz 3
 have a2_0_4 := F2.out.1.cell 4 _ rfl
 have f2_0_4 := F2.out.1.fz 4
 have a2_0_5 := F2.out.1.cell 5 _ rfl
 have f2_0_5 := F2.out.1.fz 5
 have l2_1 := F2.out.2.1.lt
 have a2_1_0 := F2.out.2.1.cell 0 _ rfl
 have f2_1_0 := F2.out.2.1.fz 0
 have a2_1_1 := F2.out.2.1.cell 1 _ rfl
 have f2_1_1 := F2.out.2.1.fz 1
 have l2_2 := F2.out.2.2.1.lt
 have a2_2_0 := F2.out.2.2.1.cell 0 _ rfl
 have f2_2_0 := F2.out.2.2.1.fz 0
 have a2_2_1 := F2.out.2.2.1.cell 1 _ rfl
 have f2_2_1 := F2.out.2.2.1.fz 1
 have ne2_0_1 : ¬ w.heap.size = w.heap.size + 1 := by omega
 have ne2_0_2 : ¬ w.heap.size = w2.heap.size := by omega
 have ne2_1_0 : ¬ w.heap.size + 1 = w.heap.size := by omega
 have ne2_1_2 : ¬ w.heap.size + 1 = w2.heap.size := by omega
 have ne2_2_0 : ¬ w2.heap.size = w.heap.size := by omega
 have ne2_2_1 : ¬ w2.heap.size = w.heap.size + 1 := by omega
 go_wp2_with fail
 all_goals first | (exfalso; omega) | skip
 refine (HU _ (hT.next (F2.out.2.2.2))).mono ?_
 rintro o4 w4 ⟨rfl, bb⟩
 have F3 : Hid (Bk w4 (w.heap.size) [.int .u64 mh, .int .u64 ml, .int .i64 X, .bool false, .int .i64 p, .int .i64 d] ∧ Bk w4 (w.heap.size + 1) [.int .u64 0, .bool false] ∧ Bk w4 (w2.heap.size) [.int .u64 h, .int .u64 l] ∧ Below w.heap.size w w4) := ⟨(F2.out.1).step bb, (F2.out.2.1).step bb, (F2.out.2.2.1).step bb, (F2.out.2.2.2).trans (bb.mono (F2.out.2.2.2).size)⟩
 clear F2
 clear bb
 clear l2_0 a2_0_0 f2_0_0 a2_0_1 f2_0_1 a2_0_2 f2_0_2 a2_0_3 f2_0_3 a2_0_4 f2_0_4 a2_0_5 f2_0_5 l2_1 a2_1_0 f2_1_0 a2_1_1 f2_1_1 l2_2 a2_2_0 f2_2_0 a2_2_1 f2_2_1
 have l3_0 := F3.out.1.lt
 have a3_0_0 := F3.out.1.cell 0 _ rfl
 have f3_0_0 := F3.out.1.fz 0
 have a3_0_1 := F3.out.1.cell 1 _ rfl
 have f3_0_1 := F3.out.1.fz 1
 have a3_0_2 := F3.out.1.cell 2 _ rfl
 have f3_0_2 := F3.out.1.fz 2
 have a3_0_3 := F3.out.1.cell 3 _ rfl
 have f3_0_3 := F3.out.1.fz 3
 have a3_0_4 := F3.out.1.cell 4 _ rfl
 have f3_0_4 := F3.out.1.fz 4
 have a3_0_5 := F3.out.1.cell 5 _ rfl
 have f3_0_5 := F3.out.1.fz 5
 have l3_1 := F3.out.2.1.lt
 have a3_1_0 := F3.out.2.1.cell 0 _ rfl
 have f3_1_0 := F3.out.2.1.fz 0
 have a3_1_1 := F3.out.2.1.cell 1 _ rfl
 have f3_1_1 := F3.out.2.1.fz 1
 have l3_2 := F3.out.2.2.1.lt
 have a3_2_0 := F3.out.2.2.1.cell 0 _ rfl
 have f3_2_0 := F3.out.2.2.1.fz 0
 have a3_2_1 := F3.out.2.2.1.cell 1 _ rfl
 have f3_2_1 := F3.out.2.2.1.fz 1
 have ne3_0_1 : ¬ w.heap.size = w.heap.size + 1 := by omega
 have ne3_0_2 : ¬ w.heap.size = w2.heap.size := by omega
 have ne3_1_0 : ¬ w.heap.size + 1 = w.heap.size := by omega
 have ne3_1_2 : ¬ w.heap.size + 1 = w2.heap.size := by omega
 have ne3_2_0 : ¬ w2.heap.size = w.heap.size := by omega
 have ne3_2_1 : ¬ w2.heap.size = w.heap.size + 1 := by omega
 go_wp2_with fail
 all_goals first | (exfalso; omega) | skip
 refine (HA _).mono ?_
 rintro o5 w5 ⟨rfl, bb⟩
 have F4 : Hid (Bk w5 (w.heap.size) [.int .u64 mh, .int .u64 ml, .int .i64 X, .bool false, .int .i64 p, .int .i64 d] ∧ Bk w5 (w.heap.size + 1) [.int .u64 0, .bool false] ∧ Bk w5 (w2.heap.size) [.int .u64 h, .int .u64 l] ∧ Below w.heap.size w w5) := ⟨(F3.out.1).step bb, (F3.out.2.1).step bb, (F3.out.2.2.1).step bb, (F3.out.2.2.2).trans (bb.mono (F3.out.2.2.2).size)⟩
 clear F3
 clear bb
 clear l3_0 a3_0_0 f3_0_0 a3_0_1 f3_0_1 a3_0_2 f3_0_2 a3_0_3 f3_0_3 a3_0_4 f3_0_4 a3_0_5 f3_0_5 l3_1 a3_1_0 f3_1_0 a3_1_1 f3_1_1 l3_2 a3_2_0 f3_2_0 a3_2_1 f3_2_1
 have l4_0 := F4.out.1.lt
 have a4_0_0 := F4.out.1.cell 0 _ rfl
 have f4_0_0 := F4.out.1.fz 0
 have a4_0_1 := F4.out.1.cell 1 _ rfl
 have f4_0_1 := F4.out.1.fz 1
 have a4_0_2 := F4.out.1.cell 2 _ rfl
 have f4_0_2 := F4.out.1.fz 2
 have a4_0_3 := F4.out.1.cell 3 _ rfl
 have f4_0_3 := F4.out.1.fz 3
 have a4_0_4 := F4.out.1.cell 4 _ rfl
 have f4_0_4 := F4.out.1.fz 4
 have a4_0_5 := F4.out.1.cell 5 _ rfl
 have f4_0_5 := F4.out.1.fz 5
 have l4_1 := F4.out.2.1.lt
 have a4_1_0 := F4.out.2.1.cell 0 _ rfl
 have f4_1_0 := F4.out.2.1.fz 0
 have a4_1_1 := F4.out.2.1.cell 1 _ rfl
 have f4_1_1 := F4.out.2.1.fz 1
 have l4_2 := F4.out.2.2.1.lt
 have a4_2_0 := F4.out.2.2.1.cell 0 _ rfl
 have f4_2_0 := F4.out.2.2.1.fz 0
 have a4_2_1 := F4.out.2.2.1.cell 1 _ rfl
 have f4_2_1 := F4.out.2.2.1.fz 1
 have ne4_0_1 : ¬ w.heap.size = w.heap.size + 1 := by omega
 have ne4_0_2 : ¬ w.heap.size = w2.heap.size := by omega
 have ne4_1_0 : ¬ w.heap.size + 1 = w.heap.size := by omega
 have ne4_1_2 : ¬ w.heap.size + 1 = w2.heap.size := by omega
 have ne4_2_0 : ¬ w2.heap.size = w.heap.size := by omega
 have ne4_2_1 : ¬ w2.heap.size = w.heap.size + 1 := by omega
 rcases hcy.out with ⟨hc, ht⟩ | ⟨hc, ht⟩
 all_goals
  go_upto_region 8 with fail
  clear l4_0 a4_0_0 f4_0_0 a4_0_1 f4_0_1 a4_0_2 f4_0_2 a4_0_3 f4_0_3 a4_0_4 f4_0_4 a4_0_5 f4_0_5 l4_1 a4_1_0 f4_1_0 a4_1_1 f4_1_1 l4_2 a4_2_0 f4_2_0 a4_2_1 f4_2_1
  have F5 : Hid (Bk ((w5.setCell ⟨w2.heap.size, 0, none⟩ (.int .u64 h2)).setCell ⟨w2.heap.size, 1, none⟩ (.int .u64 l2)) (w.heap.size) [.int .u64 mh, .int .u64 ml, .int .i64 X, .bool false, .int .i64 p, .int .i64 d] ∧ Bk ((w5.setCell ⟨w2.heap.size, 0, none⟩ (.int .u64 h2)).setCell ⟨w2.heap.size, 1, none⟩ (.int .u64 l2)) (w.heap.size + 1) [.int .u64 0, .bool false] ∧ Bk ((w5.setCell ⟨w2.heap.size, 0, none⟩ (.int .u64 h2)).setCell ⟨w2.heap.size, 1, none⟩ (.int .u64 l2)) (w2.heap.size) [.int .u64 h2, .int .u64 l2] ∧ Below w.heap.size w ((w5.setCell ⟨w2.heap.size, 0, none⟩ (.int .u64 h2)).setCell ⟨w2.heap.size, 1, none⟩ (.int .u64 l2))) := ⟨((F4.out.1).set1 (by omega) 0 (.int .u64 h2)).set1 (by omega) 1 (.int .u64 l2), ((F4.out.2.1).set1 (by omega) 0 (.int .u64 h2)).set1 (by omega) 1 (.int .u64 l2), (F4.out.2.2.1).fill2 (.int .u64 h2) (.int .u64 l2), ((F4.out.2.2.2).setCell (by dsimp only; omega) (.int .u64 h2)).setCell (by dsimp only; omega) (.int .u64 l2)⟩
  clear F4
  generalize ((w5.setCell ⟨w2.heap.size, 0, none⟩ (.int .u64 h2)).setCell ⟨w2.heap.size, 1, none⟩ (.int .u64 l2)) = w6 at *
  have l5_0 := F5.out.1.lt
  have a5_0_0 := F5.out.1.cell 0 _ rfl
  have f5_0_0 := F5.out.1.fz 0
  have a5_0_1 := F5.out.1.cell 1 _ rfl
  have f5_0_1 := F5.out.1.fz 1
  have a5_0_2 := F5.out.1.cell 2 _ rfl
  have f5_0_2 := F5.out.1.fz 2
  have a5_0_3 := F5.out.1.cell 3 _ rfl
  have f5_0_3 := F5.out.1.fz 3
  have a5_0_4 := F5.out.1.cell 4 _ rfl
  have f5_0_4 := F5.out.1.fz 4
  have a5_0_5 := F5.out.1.cell 5 _ rfl
  have f5_0_5 := F5.out.1.fz 5
  have l5_1 := F5.out.2.1.lt
  have a5_1_0 := F5.out.2.1.cell 0 _ rfl
  have f5_1_0 := F5.out.2.1.fz 0
  have a5_1_1 := F5.out.2.1.cell 1 _ rfl
  have f5_1_1 := F5.out.2.1.fz 1
  have l5_2 := F5.out.2.2.1.lt
  have a5_2_0 := F5.out.2.2.1.cell 0 _ rfl
  have f5_2_0 := F5.out.2.2.1.fz 0
  have a5_2_1 := F5.out.2.2.1.cell 1 _ rfl
  have f5_2_1 := F5.out.2.2.1.fz 1
  have ne5_0_1 : ¬ w.heap.size = w.heap.size + 1 := by omega
  have ne5_0_2 : ¬ w.heap.size = w2.heap.size := by omega
  have ne5_1_0 : ¬ w.heap.size + 1 = w.heap.size := by omega
  have ne5_1_2 : ¬ w.heap.size + 1 = w2.heap.size := by omega
  have ne5_2_0 : ¬ w2.heap.size = w.heap.size := by omega
  have ne5_2_1 : ¬ w2.heap.size = w.heap.size + 1 := by omega
  go_wp2_with fail
  all_goals first | (exfalso; omega) | skip
  refine (HV _ (hT.next F5.out.2.2.2)).mono ?_
  rintro o7 w7 ⟨rfl, bb⟩
  have F6 : Hid (Bk w7 (w.heap.size) [.int .u64 mh, .int .u64 ml, .int .i64 X, .bool false, .int .i64 p, .int .i64 d] ∧ Bk w7 (w.heap.size + 1) [.int .u64 0, .bool false] ∧ Bk w7 (w2.heap.size) [.int .u64 h2, .int .u64 l2] ∧ Below w.heap.size w w7) := ⟨(F5.out.1).step bb, (F5.out.2.1).step bb, (F5.out.2.2.1).step bb, (F5.out.2.2.2).trans (bb.mono (F5.out.2.2.2).size)⟩
  clear F5
  clear bb
  clear l5_0 a5_0_0 f5_0_0 a5_0_1 f5_0_1 a5_0_2 f5_0_2 a5_0_3 f5_0_3 a5_0_4 f5_0_4 a5_0_5 f5_0_5 l5_1 a5_1_0 f5_1_0 a5_1_1 f5_1_1 l5_2 a5_2_0 f5_2_0 a5_2_1 f5_2_1
  have l6_0 := F6.out.1.lt
  have a6_0_0 := F6.out.1.cell 0 _ rfl
  have f6_0_0 := F6.out.1.fz 0
  have a6_0_1 := F6.out.1.cell 1 _ rfl
  have f6_0_1 := F6.out.1.fz 1
  have a6_0_2 := F6.out.1.cell 2 _ rfl
  have f6_0_2 := F6.out.1.fz 2
  have a6_0_3 := F6.out.1.cell 3 _ rfl
  have f6_0_3 := F6.out.1.fz 3
  have a6_0_4 := F6.out.1.cell 4 _ rfl
  have f6_0_4 := F6.out.1.fz 4
  have a6_0_5 := F6.out.1.cell 5 _ rfl
  have f6_0_5 := F6.out.1.fz 5
  have l6_1 := F6.out.2.1.lt
  have a6_1_0 := F6.out.2.1.cell 0 _ rfl
  have f6_1_0 := F6.out.2.1.fz 0
  have a6_1_1 := F6.out.2.1.cell 1 _ rfl
  have f6_1_1 := F6.out.2.1.fz 1
  have l6_2 := F6.out.2.2.1.lt
  have a6_2_0 := F6.out.2.2.1.cell 0 _ rfl
  have f6_2_0 := F6.out.2.2.1.fz 0
  have a6_2_1 := F6.out.2.2.1.cell 1 _ rfl
  have f6_2_1 := F6.out.2.2.1.fz 1
  have ne6_0_1 : ¬ w.heap.size = w.heap.size + 1 := by omega
  have ne6_0_2 : ¬ w.heap.size = w2.heap.size := by omega
  have ne6_1_0 : ¬ w.heap.size + 1 = w.heap.size := by omega
  have ne6_1_2 : ¬ w.heap.size + 1 = w2.heap.size := by omega
  have ne6_2_0 : ¬ w2.heap.size = w.heap.size := by omega
  have ne6_2_1 : ¬ w2.heap.size = w.heap.size + 1 := by omega
  have hq : (u2 == u1) = false := beq_eq_false_iff_ne.mpr e12
  clear e12
  go_wp2_with fail
  all_goals first | (exfalso; omega) | skip
  refine (HF _).mono ?_
  rintro o8 w8 ⟨rfl, bb⟩
  have F7 : Hid (Bk w8 (w.heap.size) [.int .u64 mh, .int .u64 ml, .int .i64 X, .bool false, .int .i64 p, .int .i64 d] ∧ Bk w8 (w.heap.size + 1) [.int .u64 0, .bool false] ∧ Bk w8 (w2.heap.size) [.int .u64 h2, .int .u64 l2] ∧ Below w.heap.size w w8) := ⟨(F6.out.1).step bb, (F6.out.2.1).step bb, (F6.out.2.2.1).step bb, (F6.out.2.2.2).trans (bb.mono (F6.out.2.2.2).size)⟩
  clear F6
  clear bb
  clear l6_0 a6_0_0 f6_0_0 a6_0_1 f6_0_1 a6_0_2 f6_0_2 a6_0_3 f6_0_3 a6_0_4 f6_0_4 a6_0_5 f6_0_5 l6_1 a6_1_0 f6_1_0 a6_1_1 f6_1_1 l6_2 a6_2_0 f6_2_0 a6_2_1 f6_2_1
  have l7_0 := F7.out.1.lt
  have a7_0_0 := F7.out.1.cell 0 _ rfl
  have f7_0_0 := F7.out.1.fz 0
  have a7_0_1 := F7.out.1.cell 1 _ rfl
  have f7_0_1 := F7.out.1.fz 1
  have a7_0_2 := F7.out.1.cell 2 _ rfl
  have f7_0_2 := F7.out.1.fz 2
  have a7_0_3 := F7.out.1.cell 3 _ rfl
  have f7_0_3 := F7.out.1.fz 3
  have a7_0_4 := F7.out.1.cell 4 _ rfl
  have f7_0_4 := F7.out.1.fz 4
  have a7_0_5 := F7.out.1.cell 5 _ rfl
  have f7_0_5 := F7.out.1.fz 5
  have l7_1 := F7.out.2.1.lt
  have a7_1_0 := F7.out.2.1.cell 0 _ rfl
  have f7_1_0 := F7.out.2.1.fz 0
  have a7_1_1 := F7.out.2.1.cell 1 _ rfl
  have f7_1_1 := F7.out.2.1.fz 1
  have l7_2 := F7.out.2.2.1.lt
  have a7_2_0 := F7.out.2.2.1.cell 0 _ rfl
  have f7_2_0 := F7.out.2.2.1.fz 0
  have a7_2_1 := F7.out.2.2.1.cell 1 _ rfl
  have f7_2_1 := F7.out.2.2.1.fz 1
  have ne7_0_1 : ¬ w.heap.size = w.heap.size + 1 := by omega
  have ne7_0_2 : ¬ w.heap.size = w2.heap.size := by omega
  have ne7_1_0 : ¬ w.heap.size + 1 = w.heap.size := by omega
  have ne7_1_2 : ¬ w.heap.size + 1 = w2.heap.size := by omega
  have ne7_2_0 : ¬ w2.heap.size = w.heap.size := by omega
  have ne7_2_1 : ¬ w2.heap.size = w.heap.size + 1 := by omega
  go_wp2
  refine bodyPost_ret (v := .tuple #[.agg #[.int .u64 0, .bool false], .bool false]) (by simp [results, Tryz.results75, go_sem, World.cell?_setCell_same, World.cell?_setCell_other, *]) rfl ⟨rfl, ?_⟩
  repeat (first | refine Below.setCell ?_ (by first | exact Nat.le_refl _ | (dsimp only; omega)) _ | refine Below.alloc ?_ (by first | exact Nat.le_refl _ | omega | (simp; omega)) _ | refine Below.drew ?_)
  exact F7.out.2.2.2
theorem unitsT_ok {w : World} {mh ml X p d : Int} {ex : Bool} {t h l q b r : Int} {c : Bool} (hT : Tab w) (d1 : 120 ≤ d) (d2 : d ≤ 123) (hr : bits BinOp.or IntKind.u64 (IntKind.u64.wrap (t * 2 ^ (128 - d).toNat)) b = r) (HR : ∀ W, Tab W → Calls Tryz.prog 152 #[.agg #[.int .u64 h, .int .u64 l], .int .i64 d] W fun e w' => e = .returned (.tuple #[.agg #[.int .u64 q, .int .u64 b], .bool c]) ∧ Below W.heap.size W w') :
 Calls Tryz.prog 116 #[.agg #[.int .u64 mh, .int .u64 ml, .int .i64 X, .bool ex, .int .i64 p, .int .i64 d], .int .u64 t, .agg #[.int .u64 h, .int .u64 l]] w fun x w' => x = .returned (.tuple #[.int .u64 r, .bool c]) ∧ Below w.heap.size w w' := by
 have F0 : Hid (Bk ((w.alloc (.cells #[.int .u64 mh, .int .u64 ml, .int .i64 X, .bool ex, .int .i64 p, .int .i64 d] 49)).alloc (.cells #[.int .u64 h, .int .u64 l] 45)) (w.heap.size) [.int .u64 mh, .int .u64 ml, .int .i64 X, .bool ex, .int .i64 p, .int .i64 d] ∧ Bk ((w.alloc (.cells #[.int .u64 mh, .int .u64 ml, .int .i64 X, .bool ex, .int .i64 p, .int .i64 d] 49)).alloc (.cells #[.int .u64 h, .int .u64 l] 45)) (w.heap.size + 1) [.int .u64 h, .int .u64 l] ∧ Below w.heap.size w ((w.alloc (.cells #[.int .u64 mh, .int .u64 ml, .int .i64 X, .bool ex, .int .i64 p, .int .i64 d] 49)).alloc (.cells #[.int .u64 h, .int .u64 l] 45))) := ⟨(Bk.newL w [.int .u64 mh, .int .u64 ml, .int .i64 X, .bool ex, .int .i64 p, .int .i64 d] 49).step ((Below.refl _ _).alloc (Nat.le_refl _) _), ((by have q := Bk.newL (w.alloc (.cells #[.int .u64 mh, .int .u64 ml, .int .i64 X, .bool ex, .int .i64 p, .int .i64 d] 49)) [.int .u64 h, .int .u64 l] 45; simpa using q) : Bk ((w.alloc (.cells #[.int .u64 mh, .int .u64 ml, .int .i64 X, .bool ex, .int .i64 p, .int .i64 d] 49)).alloc (.cells #[.int .u64 h, .int .u64 l] 45)) (w.heap.size + 1) [.int .u64 h, .int .u64 l]), (((Below.refl w.heap.size w)).alloc (Nat.le_refl _) _).alloc ((((Below.refl w.heap.size w)).alloc (Nat.le_refl _) _).size) _⟩
 go_enter Tryz.func116, Tryz.ntmps116
 go_upto_region 1 with fail
 generalize ((w.alloc (.cells #[.int .u64 mh, .int .u64 ml, .int .i64 X, .bool ex, .int .i64 p, .int .i64 d] 49)).alloc (.cells #[.int .u64 h, .int .u64 l] 45)) = w1 at *
 have l1_0 := F0.out.1.lt
 have a1_0_0 := F0.out.1.cell 0 _ rfl
 have f1_0_0 := F0.out.1.fz 0
 have a1_0_1 := F0.out.1.cell 1 _ rfl
 have f1_0_1 := F0.out.1.fz 1
 have a1_0_2 := F0.out.1.cell 2 _ rfl
 have f1_0_2 := F0.out.1.fz 2
 have a1_0_3 := F0.out.1.cell 3 _ rfl
 have f1_0_3 := F0.out.1.fz 3
 have a1_0_4 := F0.out.1.cell 4 _ rfl
 have f1_0_4 := F0.out.1.fz 4
 have a1_0_5 := F0.out.1.cell 5 _ rfl
 have f1_0_5 := F0.out.1.fz 5
 have l1_1 := F0.out.2.1.lt
 have a1_1_0 := F0.out.2.1.cell 0 _ rfl
 have f1_1_0 := F0.out.2.1.fz 0
 have a1_1_1 := F0.out.2.1.cell 1 _ rfl
 have f1_1_1 := F0.out.2.1.fz 1
 have ne1_0_1 : ¬ w.heap.size = w.heap.size + 1 := by omega
 have ne1_1_0 : ¬ w.heap.size + 1 = w.heap.size := by omega
 go_wp2_with fail
 all_goals first | (exfalso; omega) | skip
 refine (HR _ (hT.next (F0.out.2.2))).mono ?_
 rintro o2 w2 ⟨rfl, bb⟩
 have F1 : Hid (Bk w2 (w.heap.size) [.int .u64 mh, .int .u64 ml, .int .i64 X, .bool ex, .int .i64 p, .int .i64 d] ∧ Bk w2 (w.heap.size + 1) [.int .u64 h, .int .u64 l] ∧ Below w.heap.size w w2) := ⟨(F0.out.1).step bb, (F0.out.2.1).step bb, (F0.out.2.2).trans (bb.mono (F0.out.2.2).size)⟩
 clear F0
 clear bb
 clear l1_0 a1_0_0 f1_0_0 a1_0_1 f1_0_1 a1_0_2 f1_0_2 a1_0_3 f1_0_3 a1_0_4 f1_0_4 a1_0_5 f1_0_5 l1_1 a1_1_0 f1_1_0 a1_1_1 f1_1_1
 have lt0_2 := (F1.out.1).lt
 have lt1_2 := (F1.out.2.1).lt
 have le2 := (F1.out.2.2).size
 have F2 : Hid (Bk (w2.alloc (.cells #[.int .u64 q, .int .u64 b] 45)) (w.heap.size) [.int .u64 mh, .int .u64 ml, .int .i64 X, .bool ex, .int .i64 p, .int .i64 d] ∧ Bk (w2.alloc (.cells #[.int .u64 q, .int .u64 b] 45)) (w.heap.size + 1) [.int .u64 h, .int .u64 l] ∧ Bk (w2.alloc (.cells #[.int .u64 q, .int .u64 b] 45)) (w2.heap.size) [.int .u64 q, .int .u64 b] ∧ Below w.heap.size w (w2.alloc (.cells #[.int .u64 q, .int .u64 b] 45))) := ⟨(F1.out.1).step ((Below.refl _ _).alloc (Nat.le_refl _) _), (F1.out.2.1).step ((Below.refl _ _).alloc (Nat.le_refl _) _), Bk.newL w2 [.int .u64 q, .int .u64 b] 45, (F1.out.2.2).alloc ((F1.out.2.2).size) _⟩
 clear F1
 go_upto_region 2 with fail
 generalize (w2.alloc (.cells #[.int .u64 q, .int .u64 b] 45)) = w3 at *
 have l2_0 := F2.out.1.lt
 have a2_0_0 := F2.out.1.cell 0 _ rfl
 have f2_0_0 := F2.out.1.fz 0
 have a2_0_1 := F2.out.1.cell 1 _ rfl
 have f2_0_1 := F2.out.1.fz 1
 have a2_0_2 := F2.out.1.cell 2 _ rfl
 have f2_0_2 := F2.out.1.fz 2
 have a2_0_3 := F2.out.1.cell 3 _ rfl
 have f2_0_3 := F2.out.1.fz 3
 have a2_0_4 := F2.out.1.cell 4 _ rfl
 have f2_0_4 := F2.out.1.fz 4
 have a2_0_5 := F2.out.1.cell 5 _ rfl
 have f2_0_5 := F2.out.1.fz 5
 have l2_1 := F2.out.2.1.lt
 have a2_1_0 := F2.out.2.1.cell 0 _ rfl
 have f2_1_0 := F2.out.2.1.fz 0
 have a2_1_1 := F2.out.2.1.cell 1 _ rfl
 have f2_1_1 := F2.out.2.1.fz 1
 have l2_2 := F2.out.2.2.1.lt
 have a2_2_0 := F2.out.2.2.1.cell 0 _ rfl
 have f2_2_0 := F2.out.2.2.1.fz 0
 have a2_2_1 := F2.out.2.2.1.cell 1 _ rfl
 have f2_2_1 := F2.out.2.2.1.fz 1
 have ne2_0_1 : ¬ w.heap.size = w.heap.size + 1 := by omega
 have ne2_0_2 : ¬ w.heap.size = w2.heap.size := by omega
 have ne2_1_0 : ¬ w.heap.size + 1 = w.heap.size := by omega
 have ne2_1_2 : ¬ w.heap.size + 1 = w2.heap.size := by omega
 have ne2_2_0 : ¬ w2.heap.size = w.heap.size := by omega
 have ne2_2_1 : ¬ w2.heap.size = w.heap.size + 1 := by omega
 clear l2_0 a2_0_0 f2_0_0 a2_0_1 f2_0_1 a2_0_2 f2_0_2 a2_0_3 f2_0_3 a2_0_4 f2_0_4 a2_0_5 f2_0_5 l2_1 a2_1_0 f2_1_0 a2_1_1 f2_1_1 l2_2 a2_2_0 f2_2_0 a2_2_1 f2_2_1
 have l3_0 := F2.out.1.lt
 have a3_0_0 := F2.out.1.cell 0 _ rfl
 have f3_0_0 := F2.out.1.fz 0
 have a3_0_1 := F2.out.1.cell 1 _ rfl
 have f3_0_1 := F2.out.1.fz 1
 have a3_0_2 := F2.out.1.cell 2 _ rfl
 have f3_0_2 := F2.out.1.fz 2
 have a3_0_3 := F2.out.1.cell 3 _ rfl
 have f3_0_3 := F2.out.1.fz 3
 have a3_0_4 := F2.out.1.cell 4 _ rfl
 have f3_0_4 := F2.out.1.fz 4
 have a3_0_5 := F2.out.1.cell 5 _ rfl
 have f3_0_5 := F2.out.1.fz 5
 have l3_1 := F2.out.2.1.lt
 have a3_1_0 := F2.out.2.1.cell 0 _ rfl
 have f3_1_0 := F2.out.2.1.fz 0
 have a3_1_1 := F2.out.2.1.cell 1 _ rfl
 have f3_1_1 := F2.out.2.1.fz 1
 have l3_2 := F2.out.2.2.1.lt
 have a3_2_0 := F2.out.2.2.1.cell 0 _ rfl
 have f3_2_0 := F2.out.2.2.1.fz 0
 have a3_2_1 := F2.out.2.2.1.cell 1 _ rfl
 have f3_2_1 := F2.out.2.2.1.fz 1
 have ne3_0_1 : ¬ w.heap.size = w.heap.size + 1 := by omega
 have ne3_0_2 : ¬ w.heap.size = w2.heap.size := by omega
 have ne3_1_0 : ¬ w.heap.size + 1 = w.heap.size := by omega
 have ne3_1_2 : ¬ w.heap.size + 1 = w2.heap.size := by omega
 have ne3_2_0 : ¬ w2.heap.size = w.heap.size := by omega
 have ne3_2_1 : ¬ w2.heap.size = w.heap.size + 1 := by omega
 go_region
 all_goals go_wp2
 all_goals go_ret2
 all_goals exact ⟨rfl, (F2.out.2.2.2).drew⟩
end Go.Proofs.YtbpfhnndlknloaaGreatDoor
