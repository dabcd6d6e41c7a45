/-
  Holds: SoD IvB IvC IvG IvJ SoE SoF SoFa SoFn SoG IvL SoK SoFb SoI.
-/
import Derived.Test.YtblkokjkmbpejaaGreatDoorRows
import Derived.Laws.Externs
import Derived.WalkKit
import Derived.WalkSpells
import Derived.WalkLawsBesides
import Derived.Lib.Mul64
import Derived.Stop.Asserts
import Derived.RowKitTokens
import Derived.Lib.Strings
import Derived.Lib.BufferWrite
import Derived.Deep.OwnRows
import Derived.Deep.RegionHeld3
import Derived.BigQuiet
import Derived.Lib.ConvBytes
import Derived.Laws.CopyOwn
import Derived.Lib.TrailingZeros
import Derived.Lib.ItoaNum
import Derived.Deep.LoopGhost
import Derived.Deep.AppendLies
import Derived.Deep.DeepCutAuto
import Derived.Test.YtblkokjkmbpejaaGreatDoorKd12
import Derived.Test.YtblkokjkmbpejaaGreatDoorKd21
import Derived.Test.YtblkokjkmbpejaaGreatDoorKd23
import Derived.Test.YtblkokjkmbpejaaGreatDoorKd24
import Derived.Test.YtblkokjkmbpejaaGreatDoorKd25
set_option maxRecDepth 100000
set_option maxHeartbeats 4000000
namespace Go.Proofs.YtblkokjkmbpejaaGreatDoor
open Go.RowKit
def hitB (c : Bool) (lo hi X : Nat) : Bool := inB c (cmpI (X : Int) (lo : Int)) (cmpI (X : Int) (hi : Int))
theorem cmpI_nonneg {a b : Nat} : 0 ≤ cmpI (a : Int) (b : Int) ↔ b ≤ a := by
 unfold cmpI
 split <;> (try split) <;> omega
theorem cmpI_pos {a b : Nat} : 0 < cmpI (a : Int) (b : Int) ↔ b < a := by
 unfold cmpI
 split <;> (try split) <;> omega
theorem cmpI_nonpos {a b : Nat} : cmpI (a : Int) (b : Int) ≤ 0 ↔ a ≤ b := by
 unfold cmpI
 split <;> (try split) <;> omega
theorem hitB_iff {c : Bool} {lo hi X : Nat} : hitB c lo hi X = true ↔ (c = true ∧ lo ≤ X ∧ X ≤ hi) ∨ (c = false ∧ lo < X ∧ X < hi) := by
 unfold hitB inB
 cases c
 · rw [if_neg (by decide), Bool.and_eq_true, decide_eq_true_eq, decide_eq_true_eq, cmpI_pos, cmpI_lt1]
   exact ⟨fun h => Or.inr ⟨rfl, h⟩, fun h => by rcases h with ⟨a, _⟩ | ⟨_, h⟩; cases a; exact h⟩
 · rw [if_pos rfl, Bool.and_eq_true, decide_eq_true_eq, decide_eq_true_eq, cmpI_nonneg, cmpI_nonpos]
   exact ⟨fun h => Or.inl ⟨rfl, h⟩, fun h => by rcases h with ⟨_, h⟩ | ⟨a, _⟩; exact h; cases a⟩
def dnU (X S : Nat) : Nat := X / S * S
def upU (X S : Nat) : Nat := (X + (S - 1)) / S * S
def rnB (X S : Nat) : Bool := decide (S < 2 * (X % S) ∨ (2 * (X % S) = S ∧ X / S % 2 = 1))
def rnU (X S : Nat) : Nat := if rnB X S then upU X S else dnU X S
theorem dn_le (X S : Nat) : dnU X S ≤ X := by unfold dnU; rw [Nat.mul_comm]; exact Nat.mul_div_le X S
theorem dn_mod {X S : Nat} : dnU X S + X % S = X := by unfold dnU; rw [Nat.mul_comm]; exact Nat.div_add_mod X S
theorem up_none {X S : Nat} (S0 : 0 < S) (h : X % S = 0) : upU X S = X ∧ dnU X S = X := ⟨(mod_mul_none S0 h).2, (mod_mul_none S0 h).1⟩
theorem up_is {X S : Nat} (S0 : 0 < S) (h : 0 < X % S) : upU X S = dnU X S + S := by
 unfold upU dnU
 rw [up_some S0 h, Nat.add_mul, Nat.one_mul]
theorem up_ge {X S : Nat} (S0 : 0 < S) : X ≤ upU X S := by
 rcases Nat.eq_zero_or_pos (X % S) with z | z
 · rw [(up_none S0 z).1]; exact Nat.le_refl _
 · rw [up_is S0 z]
   have := @dn_mod X S
   have := Nat.mod_lt X S0
   omega
theorem grid_dn {X S Z : Nat} (S0 : 0 < S) (h : Z % S = 0) (hZ : Z ≤ X) : Z ≤ dnU X S := by
 obtain ⟨k, rfl⟩ : ∃ k, Z = S * k := ⟨Z / S, by have := Nat.div_add_mod Z S; omega⟩
 unfold dnU
 rw [Nat.mul_comm S k]
 exact Nat.mul_le_mul_right S ((Nat.le_div_iff_mul_le S0).2 (by rw [Nat.mul_comm]; exact hZ))
theorem grid_up {X S Z : Nat} (S0 : 0 < S) (h : Z % S = 0) (hZ : X ≤ Z) : upU X S ≤ Z := by
 obtain ⟨k, rfl⟩ : ∃ k, Z = S * k := ⟨Z / S, by have := Nat.div_add_mod Z S; omega⟩
 rcases Nat.eq_zero_or_pos (X % S) with z | z
 · rw [(up_none S0 z).1]; exact hZ
 · rw [up_is S0 z]
   have a := @dn_mod X S
   have b : X / S < k := by
    rw [Nat.div_lt_iff_lt_mul S0]
    rcases Nat.eq_or_lt_of_le hZ with e | e
    · rw [e, Nat.mul_mod_right] at z; omega
    · rw [Nat.mul_comm]; exact e
   have : dnU X S + S = (X / S + 1) * S := by unfold dnU; rw [Nat.add_mul, Nat.one_mul]
   rw [this, Nat.mul_comm S k]
   exact Nat.mul_le_mul_right S b
theorem dn_grid (X S : Nat) : dnU X S % S = 0 := Nat.mul_mod_left _ _
theorem up_grid (X S : Nat) : upU X S % S = 0 := Nat.mul_mod_left _ _
structure Rm (lo X hi : Nat) : Prop where
 below : lo < X
 above : X < hi
 wide : 2 * X ≤ lo + hi
theorem hit_dn {c : Bool} {lo X hi Y Z : Nat} (h : Rm lo X hi) (hz : hitB c lo hi Z = true) (h1 : Z ≤ Y) (h2 : Y ≤ X) : hitB c lo hi Y = true := by
 have := h.below
 have := h.above
 rw [hitB_iff] at hz ⊢
 rcases hz with ⟨rfl, _⟩ | ⟨rfl, _⟩
 · exact Or.inl ⟨rfl, by omega, by omega⟩
 · exact Or.inr ⟨rfl, by omega, by omega⟩
theorem hit_up {c : Bool} {lo X hi Y Z : Nat} (h : Rm lo X hi) (hz : hitB c lo hi Z = true) (h1 : X ≤ Y) (h2 : Y ≤ Z) : hitB c lo hi Y = true := by
 have := h.below
 have := h.above
 rw [hitB_iff] at hz ⊢
 rcases hz with ⟨rfl, _⟩ | ⟨rfl, _⟩
 · exact Or.inl ⟨rfl, by omega, by omega⟩
 · exact Or.inr ⟨rfl, by omega, by omega⟩
def anyB (c : Bool) (lo hi X S : Nat) : Bool := hitB c lo hi (dnU X S) || hitB c lo hi (upU X S)
theorem any_of {c : Bool} {lo X hi S Z : Nat} (h : Rm lo X hi) (S0 : 0 < S) (hz : hitB c lo hi Z = true) (g : Z % S = 0) : anyB c lo hi X S = true := by
 unfold anyB
 rw [Bool.or_eq_true]
 rcases Nat.le_total Z X with q | q
 · exact Or.inl (hit_dn h hz (grid_dn S0 g q) (dn_le X S))
 · exact Or.inr (hit_up h hz (up_ge S0) (grid_up S0 g q))
theorem any_ex {c : Bool} {lo X hi S : Nat} (h : anyB c lo hi X S = true) : ∃ Z, hitB c lo hi Z = true ∧ Z % S = 0 := by
 unfold anyB at h
 rw [Bool.or_eq_true] at h
 rcases h with h | h
 · exact ⟨_, h, dn_grid X S⟩
 · exact ⟨_, h, up_grid X S⟩
theorem any_mono {c : Bool} {lo X hi S S' : Nat} (h : Rm lo X hi) (S0 : 0 < S') (d : S' ∣ S) (a : anyB c lo hi X S = true) : anyB c lo hi X S' = true := by
 obtain ⟨Z, z1, z2⟩ := any_ex a
 exact any_of h S0 z1 (Nat.mod_eq_zero_of_dvd (Nat.dvd_trans d (Nat.dvd_of_mod_eq_zero z2)))
theorem near_up {c : Bool} {lo X hi S : Nat} (h : Rm lo X hi) (S0 : 0 < S) (r : rnB X S = true) (d : hitB c lo hi (dnU X S) = true) : hitB c lo hi (upU X S) = true := by
 unfold rnB at r
 rw [decide_eq_true_eq] at r
 have z : 0 < X % S := by omega
 have e1 := up_is S0 z
 have e2 := @dn_mod X S
 have e3 := h.wide
 have e4 := h.below
 have e5 := h.above
 have e6 := @up_ge X S S0
 rw [hitB_iff] at d ⊢
 rw [e1] at e6 ⊢
 generalize dnU X S = y at *
 generalize X % S = t at *
 rcases d with ⟨rfl, _, _⟩ | ⟨rfl, _, _⟩
 · exact Or.inl ⟨rfl, by omega, by omega⟩
 · exact Or.inr ⟨rfl, by omega, by omega⟩
def pickU (c : Bool) (lo hi X S : Nat) : Option Nat := if hitB c lo hi (rnU X S) then some (rnU X S) else if hitB c lo hi (upU X S) then some (upU X S) else none
theorem pick_none {c : Bool} {lo X hi S : Nat} (h : Rm lo X hi) (S0 : 0 < S) : pickU c lo hi X S = none ↔ anyB c lo hi X S = false := by
  unfold pickU anyB
  rw [Bool.or_eq_false_iff]
  constructor
  · intro q
    cases u : hitB c lo hi (upU X S) with
    | true =>
      rw [u, if_pos rfl] at q
      split at q <;> cases q
    | false =>
      refine ⟨?_, rfl⟩
      cases d : hitB c lo hi (dnU X S) with
      | false => rfl
      | true =>
        exfalso
        cases r : rnB X S with
        | true => rw [near_up h S0 r d] at u; cases u
        | false =>
          have e : rnU X S = dnU X S := by unfold rnU; rw [r]; rfl
          rw [e, d, if_pos rfl] at q
          cases q
  · rintro ⟨a, b⟩
    have e : hitB c lo hi (rnU X S) = false := by unfold rnU; split <;> assumption
    rw [e, b]
    rfl
theorem vl_rm {f T : Nat} {L : Int} (h : Fs f T L) {m : Nat} (hm : m < T * 2 ^ f) (h0 : m ≠ 0) : Rm (loF f L m) (vlF f L m) (hiF f L m) := by
 obtain ⟨k, rfl⟩ : ∃ k, m = k + 1 := ⟨m - 1, by omega⟩
 have a := lo_lt h hm h0
 have b := vl_hi h hm
 have e1 := hi_g h hm
 have e2 := lo_g h hm
 have g : gF f L k ≤ gF f L (k + 1) := by
  unfold gF fv
  have x := (xp_mono f L k).1
  exact Nat.mul_le_mul_right _ (Nat.mul_le_mul_left 1 (Nat.pow_le_pow_right (by decide) (by omega)))
 exact ⟨a, b, by omega⟩
theorem fin_fine {b z : Int} {c : Bool} {M E : Int} (HU : ∀ W, Calls Tryz.prog 120 #[.int .u64 b, .int .i64 z] W fun e w' => e = .returned (.tuple #[.agg #[.bool c, .int .i64 2, .int .u64 M, .int .i64 E], .nilIface]) ∧ Below W.heap.size W w') (w : World) :
 Calls Tryz.prog 83 #[.int .u64 b, .int .i64 z] w fun x w' => x = .returned (.tuple #[.agg #[.bool c, .int .i64 2, .int .u64 M, .int .i64 E], .nilIface]) ∧ Below w.heap.size w w' := by
 have F0 : Hid (Bk (w.alloc (.cells #[.bool false, .int .i64 0, .int .u64 0, .int .i64 0] 128)) (w.heap.size) [.bool false, .int .i64 0, .int .u64 0, .int .i64 0] ∧ Below w.heap.size w (w.alloc (.cells #[.bool false, .int .i64 0, .int .u64 0, .int .i64 0] 128))) := ⟨Bk.new4 w (.bool false) (.int .i64 0) (.int .u64 0) (.int .i64 0) 128, ((Below.refl w.heap.size w)).alloc (Nat.le_refl _) _⟩
 go_enter Tryz.func83, Tryz.ntmps83
 go_upto_region 1 with fail
 generalize (w.alloc (.cells #[.bool false, .int .i64 0, .int .u64 0, .int .i64 0] 128)) = w1 at *
 go_wp2_with fail
 all_goals first | (exfalso; omega) | skip
 refine (HU _).mono ?_
 rintro o2 w2 ⟨rfl, bb⟩
 have F1 : Hid (Bk w2 (w.heap.size) [.bool false, .int .i64 0, .int .u64 0, .int .i64 0] ∧ Below w.heap.size w w2) := ⟨(F0.out.1).step bb, (F0.out.2).trans (bb.mono (F0.out.2).size)⟩
 clear F0
 clear bb
 have lt0_1 := (F1.out.1).lt
 have le1 := (F1.out.2).size
 have F2 : Hid (Bk (w2.alloc (.cells #[.bool c, .int .i64 2, .int .u64 M, .int .i64 E] 128)) (w.heap.size) [.bool false, .int .i64 0, .int .u64 0, .int .i64 0] ∧ Bk (w2.alloc (.cells #[.bool c, .int .i64 2, .int .u64 M, .int .i64 E] 128)) (w2.heap.size) [.bool c, .int .i64 2, .int .u64 M, .int .i64 E] ∧ Below w.heap.size w (w2.alloc (.cells #[.bool c, .int .i64 2, .int .u64 M, .int .i64 E] 128))) := ⟨(F1.out.1).step ((Below.refl _ _).alloc (Nat.le_refl _) _), Bk.new4 w2 (.bool c) (.int .i64 2) (.int .u64 M) (.int .i64 E) 128, (F1.out.2).alloc ((F1.out.2).size) _⟩
 clear F1
 go_upto_region 2 with fail
 generalize (w2.alloc (.cells #[.bool c, .int .i64 2, .int .u64 M, .int .i64 E] 128)) = w3 at *
 have l1_0 := F2.out.1.lt
 have a1_0_0 := F2.out.1.cell 0 _ rfl
 have f1_0_0 := F2.out.1.fz 0
 have a1_0_1 := F2.out.1.cell 1 _ rfl
 have f1_0_1 := F2.out.1.fz 1
 have a1_0_2 := F2.out.1.cell 2 _ rfl
 have f1_0_2 := F2.out.1.fz 2
 have a1_0_3 := F2.out.1.cell 3 _ rfl
 have f1_0_3 := F2.out.1.fz 3
 have l1_1 := F2.out.2.1.lt
 have a1_1_0 := F2.out.2.1.cell 0 _ rfl
 have f1_1_0 := F2.out.2.1.fz 0
 have a1_1_1 := F2.out.2.1.cell 1 _ rfl
 have f1_1_1 := F2.out.2.1.fz 1
 have a1_1_2 := F2.out.2.1.cell 2 _ rfl
 have f1_1_2 := F2.out.2.1.fz 2
 have a1_1_3 := F2.out.2.1.cell 3 _ rfl
 have f1_1_3 := F2.out.2.1.fz 3
 have ne1_0_1 : ¬ w.heap.size = w2.heap.size := by omega
 have ne1_1_0 : ¬ w2.heap.size = w.heap.size := by omega
 go_wp2
 refine bodyPost_ret (v := .tuple #[.agg #[.bool c, .int .i64 2, .int .u64 M, .int .i64 E], .nilIface]) (by simp [results, Tryz.results83, go_sem, World.cell?_setCell_same, World.cell?_setCell_other, *]) rfl ⟨rfl, ?_⟩
 repeat (first | refine Below.setCell ?_ (by first | exact Nat.le_refl _ | (dsimp only; omega)) _ | refine Below.alloc ?_ (by first | exact Nat.le_refl _ | omega | (simp; omega)) _ | refine Below.drew ?_)
 exact F2.out.2.2
theorem fin_zero {b z : Int} {c d : Bool} {k M E : Int} (HU : ∀ W, Calls Tryz.prog 120 #[.int .u64 b, .int .i64 z] W fun e w' => e = .returned (.tuple #[.agg #[.bool c, .int .i64 1, .int .u64 0, .int .i64 0], .nilIface]) ∧ Below W.heap.size W w') (HL : ∀ W, Calls Tryz.prog 121 #[.int .i64 z] W fun e w' => e = .returned (.tuple #[.int .u64 1, .nilIface]) ∧ Below W.heap.size W w') (H1 : ∀ W, Calls Tryz.prog 120 #[.int .u64 1, .int .i64 z] W fun e w' => e = .returned (.tuple #[.agg #[.bool d, .int .i64 k, .int .u64 M, .int .i64 E], .nilIface]) ∧ Below W.heap.size W w') (w : World) :
 Calls Tryz.prog 83 #[.int .u64 b, .int .i64 z] w fun x w' => x = .returned (.tuple #[.agg #[.bool c, .int .i64 1, .int .u64 0, .int .i64 E], .nilIface]) ∧ Below w.heap.size w w' := by
 have F0 : Hid (Bk (w.alloc (.cells #[.bool false, .int .i64 0, .int .u64 0, .int .i64 0] 128)) (w.heap.size) [.bool false, .int .i64 0, .int .u64 0, .int .i64 0] ∧ Below w.heap.size w (w.alloc (.cells #[.bool false, .int .i64 0, .int .u64 0, .int .i64 0] 128))) := ⟨Bk.new4 w (.bool false) (.int .i64 0) (.int .u64 0) (.int .i64 0) 128, ((Below.refl w.heap.size w)).alloc (Nat.le_refl _) _⟩
 go_enter Tryz.func83, Tryz.ntmps83
 go_upto_region 1 with fail
 generalize (w.alloc (.cells #[.bool false, .int .i64 0, .int .u64 0, .int .i64 0] 128)) = w1 at *
 go_wp2_with fail
 all_goals first | (exfalso; omega) | skip
 refine (HU _).mono ?_
 rintro o2 w2 ⟨rfl, bb⟩
 have F1 : Hid (Bk w2 (w.heap.size) [.bool false, .int .i64 0, .int .u64 0, .int .i64 0] ∧ Below w.heap.size w w2) := ⟨(F0.out.1).step bb, (F0.out.2).trans (bb.mono (F0.out.2).size)⟩
 clear F0
 clear bb
 have lt0_1 := (F1.out.1).lt
 have le1 := (F1.out.2).size
 have F2 : Hid (Bk (w2.alloc (.cells #[.bool c, .int .i64 1, .int .u64 0, .int .i64 0] 128)) (w.heap.size) [.bool false, .int .i64 0, .int .u64 0, .int .i64 0] ∧ Bk (w2.alloc (.cells #[.bool c, .int .i64 1, .int .u64 0, .int .i64 0] 128)) (w2.heap.size) [.bool c, .int .i64 1, .int .u64 0, .int .i64 0] ∧ Below w.heap.size w (w2.alloc (.cells #[.bool c, .int .i64 1, .int .u64 0, .int .i64 0] 128))) := ⟨(F1.out.1).step ((Below.refl _ _).alloc (Nat.le_refl _) _), Bk.new4 w2 (.bool c) (.int .i64 1) (.int .u64 0) (.int .i64 0) 128, (F1.out.2).alloc ((F1.out.2).size) _⟩
 clear F1
 go_upto_region 2 with fail
 generalize (w2.alloc (.cells #[.bool c, .int .i64 1, .int .u64 0, .int .i64 0] 128)) = w3 at *
 have l1_0 := F2.out.1.lt
 have a1_0_0 := F2.out.1.cell 0 _ rfl
 have f1_0_0 := F2.out.1.fz 0
 have a1_0_1 := F2.out.1.cell 1 _ rfl
 have f1_0_1 := F2.out.1.fz 1
 have a1_0_2 := F2.out.1.cell 2 _ rfl
 have f1_0_2 := F2.out.1.fz 2
 have a1_0_3 := F2.out.1.cell 3 _ rfl
 have f1_0_3 := F2.out.1.fz 3
 have l1_1 := F2.out.2.1.lt
 have a1_1_0 := F2.out.2.1.cell 0 _ rfl
 have f1_1_0 := F2.out.2.1.fz 0
 have a1_1_1 := F2.out.2.1.cell 1 _ rfl
 have f1_1_1 := F2.out.2.1.fz 1
 have a1_1_2 := F2.out.2.1.cell 2 _ rfl
 have f1_1_2 := F2.out.2.1.fz 2
 have a1_1_3 := F2.out.2.1.cell 3 _ rfl
 have f1_1_3 := F2.out.2.1.fz 3
 have ne1_0_1 : ¬ w.heap.size = w2.heap.size := by omega
 have ne1_1_0 : ¬ w2.heap.size = w.heap.size := by omega
 go_wp2_with fail
 all_goals first | (exfalso; omega) | skip
 refine (HL _).mono ?_
 rintro o4 w4 ⟨rfl, bb⟩
 have F3 : Hid (Bk w4 (w.heap.size) [.bool false, .int .i64 0, .int .u64 0, .int .i64 0] ∧ Bk w4 (w2.heap.size) [.bool c, .int .i64 1, .int .u64 0, .int .i64 0] ∧ Below w.heap.size w w4) := ⟨(F2.out.1).step bb, (F2.out.2.1).step bb, (F2.out.2.2).trans (bb.mono (F2.out.2.2).size)⟩
 clear F2
 clear bb
 clear l1_0 a1_0_0 f1_0_0 a1_0_1 f1_0_1 a1_0_2 f1_0_2 a1_0_3 f1_0_3 l1_1 a1_1_0 f1_1_0 a1_1_1 f1_1_1 a1_1_2 f1_1_2 a1_1_3 f1_1_3
 go_wp2_with fail
 all_goals first | (exfalso; omega) | skip
 refine (H1 _).mono ?_
 rintro o5 w5 ⟨rfl, bb⟩
 have F4 : Hid (Bk w5 (w.heap.size) [.bool false, .int .i64 0, .int .u64 0, .int .i64 0] ∧ Bk w5 (w2.heap.size) [.bool c, .int .i64 1, .int .u64 0, .int .i64 0] ∧ Below w.heap.size w w5) := ⟨(F3.out.1).step bb, (F3.out.2.1).step bb, (F3.out.2.2).trans (bb.mono (F3.out.2.2).size)⟩
 clear F3
 clear bb
 have lt0_2 := (F4.out.1).lt
 have lt1_2 := (F4.out.2.1).lt
 have le2 := (F4.out.2.2).size
 have F5 : Hid (Bk (w5.alloc (.cells #[.bool d, .int .i64 k, .int .u64 M, .int .i64 E] 128)) (w.heap.size) [.bool false, .int .i64 0, .int .u64 0, .int .i64 0] ∧ Bk (w5.alloc (.cells #[.bool d, .int .i64 k, .int .u64 M, .int .i64 E] 128)) (w2.heap.size) [.bool c, .int .i64 1, .int .u64 0, .int .i64 0] ∧ Bk (w5.alloc (.cells #[.bool d, .int .i64 k, .int .u64 M, .int .i64 E] 128)) (w5.heap.size) [.bool d, .int .i64 k, .int .u64 M, .int .i64 E] ∧ Below w.heap.size w (w5.alloc (.cells #[.bool d, .int .i64 k, .int .u64 M, .int .i64 E] 128))) := ⟨(F4.out.1).step ((Below.refl _ _).alloc (Nat.le_refl _) _), (F4.out.2.1).step ((Below.refl _ _).alloc (Nat.le_refl _) _), Bk.new4 w5 (.bool d) (.int .i64 k) (.int .u64 M) (.int .i64 E) 128, (F4.out.2.2).alloc ((F4.out.2.2).size) _⟩
 clear F4
 go_upto_region 10 with fail
 generalize (w5.alloc (.cells #[.bool d, .int .i64 k, .int .u64 M, .int .i64 E] 128)) = w6 at *
 have l2_0 := F5.out.1.lt
 have a2_0_0 := F5.out.1.cell 0 _ rfl
 have f2_0_0 := F5.out.1.fz 0
 have a2_0_1 := F5.out.1.cell 1 _ rfl
 have f2_0_1 := F5.out.1.fz 1
 have a2_0_2 := F5.out.1.cell 2 _ rfl
 have f2_0_2 := F5.out.1.fz 2
 have a2_0_3 := F5.out.1.cell 3 _ rfl
 have f2_0_3 := F5.out.1.fz 3
 have l2_1 := F5.out.2.1.lt
 have a2_1_0 := F5.out.2.1.cell 0 _ rfl
 have f2_1_0 := F5.out.2.1.fz 0
 have a2_1_1 := F5.out.2.1.cell 1 _ rfl
 have f2_1_1 := F5.out.2.1.fz 1
 have a2_1_2 := F5.out.2.1.cell 2 _ rfl
 have f2_1_2 := F5.out.2.1.fz 2
 have a2_1_3 := F5.out.2.1.cell 3 _ rfl
 have f2_1_3 := F5.out.2.1.fz 3
 have l2_2 := F5.out.2.2.1.lt
 have a2_2_0 := F5.out.2.2.1.cell 0 _ rfl
 have f2_2_0 := F5.out.2.2.1.fz 0
 have a2_2_1 := F5.out.2.2.1.cell 1 _ rfl
 have f2_2_1 := F5.out.2.2.1.fz 1
 have a2_2_2 := F5.out.2.2.1.cell 2 _ rfl
 have f2_2_2 := F5.out.2.2.1.fz 2
 have a2_2_3 := F5.out.2.2.1.cell 3 _ rfl
 have f2_2_3 := F5.out.2.2.1.fz 3
 have ne2_0_1 : ¬ w.heap.size = w2.heap.size := by omega
 have ne2_0_2 : ¬ w.heap.size = w5.heap.size := by omega
 have ne2_1_0 : ¬ w2.heap.size = w.heap.size := by omega
 have ne2_1_2 : ¬ w2.heap.size = w5.heap.size := by omega
 have ne2_2_0 : ¬ w5.heap.size = w.heap.size := by omega
 have ne2_2_1 : ¬ w5.heap.size = w2.heap.size := by omega
 go_wp2
 refine bodyPost_ret (v := .tuple #[.agg #[.bool c, .int .i64 1, .int .u64 0, .int .i64 E], .nilIface]) (by simp [results, Tryz.results83, go_sem, World.cell?_setCell_same, World.cell?_setCell_other, *]) rfl ⟨rfl, ?_⟩
 repeat (first | refine Below.setCell ?_ (by first | exact Nat.le_refl _ | (dsimp only; omega)) _ | refine Below.alloc ?_ (by first | exact Nat.le_refl _ | omega | (simp; omega)) _ | refine Below.drew ?_)
 exact F5.out.2.2.2
theorem high_ok {c : Bool} {k : Int} {M : Nat} {E : Int} {s : ByteArray} {p : Int} (hM : M < 9007199254740992) (e1 : -1074 ≤ E) (e2 : E ≤ 971) (HD : ∀ W, Calls Tryz.prog 84 #[.int .u64 (2 * (M : Int) + 1), .int .i64 (E - 1)] W fun e w' => e = .returned (.agg #[.string s, .int .i64 p, .bool false]) ∧ Below W.heap.size W w') (w : World) :
 Calls Tryz.prog 119 #[.agg #[.bool c, .int .i64 k, .int .u64 (M : Int), .int .i64 E]] w fun x w' => x = .returned (.agg #[.string s, .int .i64 p, .bool false]) ∧ Below w.heap.size w w' := by
 have F0 : Hid (Bk ((w.alloc (.cells #[.bool c, .int .i64 k, .int .u64 (M : Int), .int .i64 E] 128)).alloc (.cells #[.string ⟨#[]⟩, .int .i64 0, .bool false] 24)) (w.heap.size) [.bool c, .int .i64 k, .int .u64 (M : Int), .int .i64 E] ∧ Bk ((w.alloc (.cells #[.bool c, .int .i64 k, .int .u64 (M : Int), .int .i64 E] 128)).alloc (.cells #[.string ⟨#[]⟩, .int .i64 0, .bool false] 24)) (w.heap.size + 1) [.string ⟨#[]⟩, .int .i64 0, .bool false] ∧ Below w.heap.size w ((w.alloc (.cells #[.bool c, .int .i64 k, .int .u64 (M : Int), .int .i64 E] 128)).alloc (.cells #[.string ⟨#[]⟩, .int .i64 0, .bool false] 24))) := ⟨(Bk.new4 w (.bool c) (.int .i64 k) (.int .u64 (M : Int)) (.int .i64 E) 128).step ((Below.refl _ _).alloc (Nat.le_refl _) _), ((by have q := Bk.new3 (w.alloc (.cells #[.bool c, .int .i64 k, .int .u64 (M : Int), .int .i64 E] 128)) (.string ⟨#[]⟩) (.int .i64 0) (.bool false) 24; simpa using q) : Bk ((w.alloc (.cells #[.bool c, .int .i64 k, .int .u64 (M : Int), .int .i64 E] 128)).alloc (.cells #[.string ⟨#[]⟩, .int .i64 0, .bool false] 24)) (w.heap.size + 1) [.string ⟨#[]⟩, .int .i64 0, .bool false]), (((Below.refl w.heap.size w)).alloc (Nat.le_refl _) _).alloc ((((Below.refl w.heap.size w)).alloc (Nat.le_refl _) _).size) _⟩
 go_enter Tryz.func119, Tryz.ntmps119
 go_upto_region 1 with fail
 generalize ((w.alloc (.cells #[.bool c, .int .i64 k, .int .u64 (M : Int), .int .i64 E] 128)).alloc (.cells #[.string ⟨#[]⟩, .int .i64 0, .bool false] 24)) = w1 at *
 have l1_0 := F0.out.1.lt
 have a1_0_0 := F0.out.1.cell 0 _ rfl
 have f1_0_0 := F0.out.1.fz 0
 have a1_0_1 := F0.out.1.cell 1 _ rfl
 have f1_0_1 := F0.out.1.fz 1
 have a1_0_2 := F0.out.1.cell 2 _ rfl
 have f1_0_2 := F0.out.1.fz 2
 have a1_0_3 := F0.out.1.cell 3 _ rfl
 have f1_0_3 := F0.out.1.fz 3
 have l1_1 := F0.out.2.1.lt
 have a1_1_0 := F0.out.2.1.cell 0 _ rfl
 have f1_1_0 := F0.out.2.1.fz 0
 have a1_1_1 := F0.out.2.1.cell 1 _ rfl
 have f1_1_1 := F0.out.2.1.fz 1
 have a1_1_2 := F0.out.2.1.cell 2 _ rfl
 have f1_1_2 := F0.out.2.1.fz 2
 have ne1_0_1 : ¬ w.heap.size = w.heap.size + 1 := by omega
 have ne1_1_0 : ¬ w.heap.size + 1 = w.heap.size := by omega
 go_wp2_with fail
 all_goals first | (exfalso; omega) | skip
 refine (HD _).mono ?_
 rintro o2 w2 ⟨rfl, bb⟩
 have F1 : Hid (Bk w2 (w.heap.size) [.bool c, .int .i64 k, .int .u64 (M : Int), .int .i64 E] ∧ Bk w2 (w.heap.size + 1) [.string ⟨#[]⟩, .int .i64 0, .bool false] ∧ Below w.heap.size w w2) := ⟨(F0.out.1).step bb, (F0.out.2.1).step bb, (F0.out.2.2).trans (bb.mono (F0.out.2.2).size)⟩
 clear F0
 clear bb
 clear l1_0 a1_0_0 f1_0_0 a1_0_1 f1_0_1 a1_0_2 f1_0_2 a1_0_3 f1_0_3 l1_1 a1_1_0 f1_1_0 a1_1_1 f1_1_1 a1_1_2 f1_1_2
 have l2_0 := F1.out.1.lt
 have a2_0_0 := F1.out.1.cell 0 _ rfl
 have f2_0_0 := F1.out.1.fz 0
 have a2_0_1 := F1.out.1.cell 1 _ rfl
 have f2_0_1 := F1.out.1.fz 1
 have a2_0_2 := F1.out.1.cell 2 _ rfl
 have f2_0_2 := F1.out.1.fz 2
 have a2_0_3 := F1.out.1.cell 3 _ rfl
 have f2_0_3 := F1.out.1.fz 3
 have l2_1 := F1.out.2.1.lt
 have a2_1_0 := F1.out.2.1.cell 0 _ rfl
 have f2_1_0 := F1.out.2.1.fz 0
 have a2_1_1 := F1.out.2.1.cell 1 _ rfl
 have f2_1_1 := F1.out.2.1.fz 1
 have a2_1_2 := F1.out.2.1.cell 2 _ rfl
 have f2_1_2 := F1.out.2.1.fz 2
 have ne2_0_1 : ¬ w.heap.size = w.heap.size + 1 := by omega
 have ne2_1_0 : ¬ w.heap.size + 1 = w.heap.size := by omega
 go_wp2
 refine bodyPost_ret (v := .agg #[.string s, .int .i64 p, .bool false]) (by simp [results, Tryz.results119, go_sem, World.cell?_setCell_same, World.cell?_setCell_other, *]) rfl ⟨rfl, ?_⟩
 repeat (first | refine Below.setCell ?_ (by first | exact Nat.le_refl _ | (dsimp only; omega)) _ | refine Below.alloc ?_ (by first | exact Nat.le_refl _ | omega | (simp; omega)) _ | refine Below.drew ?_)
 exact F1.out.2.2
theorem low_none {b z : Int} {n : Int} (HP : ∀ W, Calls Tryz.prog 141 #[.int .u64 b, .int .i64 z] W fun e w' => e = .returned (.tuple #[.int .u64 0, .iface 69 (.int .i64 n)]) ∧ Below W.heap.size W w') (w : World) :
 Calls Tryz.prog 118 #[.int .u64 b, .int .i64 z] w fun x w' => x = .returned (.agg #[.string ⟨#[]⟩, .int .i64 0, .bool false]) ∧ Below w.heap.size w w' := by
 have F0 : Hid (Bk (w.alloc (.cells #[.string ⟨#[]⟩, .int .i64 0, .bool false] 24)) (w.heap.size) [.string ⟨#[]⟩, .int .i64 0, .bool false] ∧ Below w.heap.size w (w.alloc (.cells #[.string ⟨#[]⟩, .int .i64 0, .bool false] 24))) := ⟨Bk.new3 w (.string ⟨#[]⟩) (.int .i64 0) (.bool false) 24, ((Below.refl w.heap.size w)).alloc (Nat.le_refl _) _⟩
 go_enter Tryz.func118, Tryz.ntmps118
 go_upto_region 1 with fail
 generalize (w.alloc (.cells #[.string ⟨#[]⟩, .int .i64 0, .bool false] 24)) = w1 at *
 go_wp2_with fail
 all_goals first | (exfalso; omega) | skip
 refine (HP _).mono ?_
 rintro o2 w2 ⟨rfl, bb⟩
 have F1 : Hid (Bk w2 (w.heap.size) [.string ⟨#[]⟩, .int .i64 0, .bool false] ∧ Below w.heap.size w w2) := ⟨(F0.out.1).step bb, (F0.out.2).trans (bb.mono (F0.out.2).size)⟩
 clear F0
 clear bb
 have l1_0 := F1.out.1.lt
 have a1_0_0 := F1.out.1.cell 0 _ rfl
 have f1_0_0 := F1.out.1.fz 0
 have a1_0_1 := F1.out.1.cell 1 _ rfl
 have f1_0_1 := F1.out.1.fz 1
 have a1_0_2 := F1.out.1.cell 2 _ rfl
 have f1_0_2 := F1.out.1.fz 2
 go_wp2
 refine bodyPost_ret (v := .agg #[.string ⟨#[]⟩, .int .i64 0, .bool false]) (by simp [results, Tryz.results118, go_sem, World.cell?_setCell_same, World.cell?_setCell_other, *]) rfl ⟨rfl, ?_⟩
 repeat (first | refine Below.setCell ?_ (by first | exact Nat.le_refl _ | (dsimp only; omega)) _ | refine Below.alloc ?_ (by first | exact Nat.le_refl _ | omega | (simp; omega)) _ | refine Below.drew ?_)
 exact F1.out.2
theorem low_some {b b' z : Int} {c : Bool} {k M E : Int} {s : ByteArray} {p : Int} (HP : ∀ W, Calls Tryz.prog 141 #[.int .u64 b, .int .i64 z] W fun e w' => e = .returned (.tuple #[.int .u64 b', .nilIface]) ∧ Below W.heap.size W w') (HF : ∀ W, Calls Tryz.prog 83 #[.int .u64 b', .int .i64 z] W fun e w' => e = .returned (.tuple #[.agg #[.bool c, .int .i64 k, .int .u64 M, .int .i64 E], .nilIface]) ∧ Below W.heap.size W w') (HH : ∀ W, Calls Tryz.prog 119 #[.agg #[.bool c, .int .i64 k, .int .u64 M, .int .i64 E]] W fun e w' => e = .returned (.agg #[.string s, .int .i64 p, .bool false]) ∧ Below W.heap.size W w') (w : World) :
 Calls Tryz.prog 118 #[.int .u64 b, .int .i64 z] w fun x w' => x = .returned (.agg #[.string s, .int .i64 p, .bool false]) ∧ Below w.heap.size w w' := by
 have F0 : Hid (Bk (w.alloc (.cells #[.string ⟨#[]⟩, .int .i64 0, .bool false] 24)) (w.heap.size) [.string ⟨#[]⟩, .int .i64 0, .bool false] ∧ Below w.heap.size w (w.alloc (.cells #[.string ⟨#[]⟩, .int .i64 0, .bool false] 24))) := ⟨Bk.new3 w (.string ⟨#[]⟩) (.int .i64 0) (.bool false) 24, ((Below.refl w.heap.size w)).alloc (Nat.le_refl _) _⟩
 go_enter Tryz.func118, Tryz.ntmps118
 go_upto_region 1 with fail
 generalize (w.alloc (.cells #[.string ⟨#[]⟩, .int .i64 0, .bool false] 24)) = w1 at *
 go_wp2_with fail
 all_goals first | (exfalso; omega) | skip
 refine (HP _).mono ?_
 rintro o2 w2 ⟨rfl, bb⟩
 have F1 : Hid (Bk w2 (w.heap.size) [.string ⟨#[]⟩, .int .i64 0, .bool false] ∧ Below w.heap.size w w2) := ⟨(F0.out.1).step bb, (F0.out.2).trans (bb.mono (F0.out.2).size)⟩
 clear F0
 clear bb
 go_wp2_with fail
 all_goals first | (exfalso; omega) | skip
 refine (HF _).mono ?_
 rintro o3 w3 ⟨rfl, bb⟩
 have F2 : Hid (Bk w3 (w.heap.size) [.string ⟨#[]⟩, .int .i64 0, .bool false] ∧ Below w.heap.size w w3) := ⟨(F1.out.1).step bb, (F1.out.2).trans (bb.mono (F1.out.2).size)⟩
 clear F1
 clear bb
 have lt0_1 := (F2.out.1).lt
 have le1 := (F2.out.2).size
 have F3 : Hid (Bk (w3.alloc (.cells #[.bool c, .int .i64 k, .int .u64 M, .int .i64 E] 128)) (w.heap.size) [.string ⟨#[]⟩, .int .i64 0, .bool false] ∧ Bk (w3.alloc (.cells #[.bool c, .int .i64 k, .int .u64 M, .int .i64 E] 128)) (w3.heap.size) [.bool c, .int .i64 k, .int .u64 M, .int .i64 E] ∧ Below w.heap.size w (w3.alloc (.cells #[.bool c, .int .i64 k, .int .u64 M, .int .i64 E] 128))) := ⟨(F2.out.1).step ((Below.refl _ _).alloc (Nat.le_refl _) _), Bk.new4 w3 (.bool c) (.int .i64 k) (.int .u64 M) (.int .i64 E) 128, (F2.out.2).alloc ((F2.out.2).size) _⟩
 clear F2
 go_upto_region 5 with fail
 generalize (w3.alloc (.cells #[.bool c, .int .i64 k, .int .u64 M, .int .i64 E] 128)) = w4 at *
 have l1_0 := F3.out.1.lt
 have a1_0_0 := F3.out.1.cell 0 _ rfl
 have f1_0_0 := F3.out.1.fz 0
 have a1_0_1 := F3.out.1.cell 1 _ rfl
 have f1_0_1 := F3.out.1.fz 1
 have a1_0_2 := F3.out.1.cell 2 _ rfl
 have f1_0_2 := F3.out.1.fz 2
 have l1_1 := F3.out.2.1.lt
 have a1_1_0 := F3.out.2.1.cell 0 _ rfl
 have f1_1_0 := F3.out.2.1.fz 0
 have a1_1_1 := F3.out.2.1.cell 1 _ rfl
 have f1_1_1 := F3.out.2.1.fz 1
 have a1_1_2 := F3.out.2.1.cell 2 _ rfl
 have f1_1_2 := F3.out.2.1.fz 2
 have a1_1_3 := F3.out.2.1.cell 3 _ rfl
 have f1_1_3 := F3.out.2.1.fz 3
 have ne1_0_1 : ¬ w.heap.size = w3.heap.size := by omega
 have ne1_1_0 : ¬ w3.heap.size = w.heap.size := by omega
 go_wp2_with fail
 all_goals first | (exfalso; omega) | skip
 refine (HH _).mono ?_
 rintro o5 w5 ⟨rfl, bb⟩
 have F4 : Hid (Bk w5 (w.heap.size) [.string ⟨#[]⟩, .int .i64 0, .bool false] ∧ Bk w5 (w3.heap.size) [.bool c, .int .i64 k, .int .u64 M, .int .i64 E] ∧ Below w.heap.size w w5) := ⟨(F3.out.1).step bb, (F3.out.2.1).step bb, (F3.out.2.2).trans (bb.mono (F3.out.2.2).size)⟩
 clear F3
 clear bb
 clear l1_0 a1_0_0 f1_0_0 a1_0_1 f1_0_1 a1_0_2 f1_0_2 l1_1 a1_1_0 f1_1_0 a1_1_1 f1_1_1 a1_1_2 f1_1_2 a1_1_3 f1_1_3
 have l2_0 := F4.out.1.lt
 have a2_0_0 := F4.out.1.cell 0 _ rfl
 have f2_0_0 := F4.out.1.fz 0
 have a2_0_1 := F4.out.1.cell 1 _ rfl
 have f2_0_1 := F4.out.1.fz 1
 have a2_0_2 := F4.out.1.cell 2 _ rfl
 have f2_0_2 := F4.out.1.fz 2
 have l2_1 := F4.out.2.1.lt
 have a2_1_0 := F4.out.2.1.cell 0 _ rfl
 have f2_1_0 := F4.out.2.1.fz 0
 have a2_1_1 := F4.out.2.1.cell 1 _ rfl
 have f2_1_1 := F4.out.2.1.fz 1
 have a2_1_2 := F4.out.2.1.cell 2 _ rfl
 have f2_1_2 := F4.out.2.1.fz 2
 have a2_1_3 := F4.out.2.1.cell 3 _ rfl
 have f2_1_3 := F4.out.2.1.fz 3
 have ne2_0_1 : ¬ w.heap.size = w3.heap.size := by omega
 have ne2_1_0 : ¬ w3.heap.size = w.heap.size := by omega
 go_wp2
 refine bodyPost_ret (v := .agg #[.string s, .int .i64 p, .bool false]) (by simp [results, Tryz.results118, go_sem, World.cell?_setCell_same, World.cell?_setCell_other, *]) rfl ⟨rfl, ?_⟩
 repeat (first | refine Below.setCell ?_ (by first | exact Nat.le_refl _ | (dsimp only; omega)) _ | refine Below.alloc ?_ (by first | exact Nat.le_refl _ | omega | (simp; omega)) _ | refine Below.drew ?_)
 exact F4.out.2.2
theorem span_ok {b : Nat} {z : Int} (hb : b < 18446744073709551616) {c : Bool} {k M E : Int} {s t : ByteArray} {p q : Int} (HF : ∀ W, Calls Tryz.prog 83 #[.int .u64 (b : Int), .int .i64 z] W fun e w' => e = .returned (.tuple #[.agg #[.bool c, .int .i64 k, .int .u64 M, .int .i64 E], .nilIface]) ∧ Below W.heap.size W w') (HL : ∀ W, Calls Tryz.prog 118 #[.int .u64 (b : Int), .int .i64 z] W fun e w' => e = .returned (.agg #[.string s, .int .i64 p, .bool false]) ∧ Below W.heap.size W w') (HH : ∀ W, Calls Tryz.prog 119 #[.agg #[.bool c, .int .i64 k, .int .u64 M, .int .i64 E]] W fun e w' => e = .returned (.agg #[.string t, .int .i64 q, .bool false]) ∧ Below W.heap.size W w') (w : World) :
 Calls Tryz.prog 82 #[.int .u64 (b : Int), .int .i64 z] w fun x w' => x = .returned (.tuple #[.agg #[.string s, .int .i64 p, .bool false, .string t, .int .i64 q, .bool false, .bool (decide (b % 2 = 0))], .nilIface]) ∧ Below w.heap.size w w' := by
 obtain ⟨B, hB⟩ : ∃ B, B = decide (b % 2 = 0) := ⟨_, rfl⟩
 have eb : ((b : Int).tmod 2 == 0) = B := by
  rw [Int.tmod_eq_emod_of_nonneg (by omega), hB]
  by_cases h : b % 2 = 0
  · rw [decide_eq_true h]; exact beq_iff_eq.mpr (by omega)
  · rw [decide_eq_false h]; exact beq_eq_false_iff_ne.mpr (by omega)
 rw [← hB]
 clear hB
 have F0 : Hid (Bk (w.alloc (.cells #[.string ⟨#[]⟩, .int .i64 0, .bool false, .string ⟨#[]⟩, .int .i64 0, .bool false, .bool false] 124)) (w.heap.size) [.string ⟨#[]⟩, .int .i64 0, .bool false, .string ⟨#[]⟩, .int .i64 0, .bool false, .bool false] ∧ Below w.heap.size w (w.alloc (.cells #[.string ⟨#[]⟩, .int .i64 0, .bool false, .string ⟨#[]⟩, .int .i64 0, .bool false, .bool false] 124))) := ⟨Bk.new7 w (.string ⟨#[]⟩) (.int .i64 0) (.bool false) (.string ⟨#[]⟩) (.int .i64 0) (.bool false) (.bool false) 124, ((Below.refl w.heap.size w)).alloc (Nat.le_refl _) _⟩
 go_enter Tryz.func82, Tryz.ntmps82
 go_upto_region 1 with fail
 generalize (w.alloc (.cells #[.string ⟨#[]⟩, .int .i64 0, .bool false, .string ⟨#[]⟩, .int .i64 0, .bool false, .bool false] 124)) = w1 at *
 go_wp2_with fail
 all_goals first | (exfalso; omega) | skip
 refine (HF _).mono ?_
 rintro o2 w2 ⟨rfl, bb⟩
 have F1 : Hid (Bk w2 (w.heap.size) [.string ⟨#[]⟩, .int .i64 0, .bool false, .string ⟨#[]⟩, .int .i64 0, .bool false, .bool false] ∧ Below w.heap.size w w2) := ⟨(F0.out.1).step bb, (F0.out.2).trans (bb.mono (F0.out.2).size)⟩
 clear F0
 clear bb
 have lt0_1 := (F1.out.1).lt
 have le1 := (F1.out.2).size
 have F2 : Hid (Bk (w2.alloc (.cells #[.bool c, .int .i64 k, .int .u64 M, .int .i64 E] 128)) (w.heap.size) [.string ⟨#[]⟩, .int .i64 0, .bool false, .string ⟨#[]⟩, .int .i64 0, .bool false, .bool false] ∧ Bk (w2.alloc (.cells #[.bool c, .int .i64 k, .int .u64 M, .int .i64 E] 128)) (w2.heap.size) [.bool c, .int .i64 k, .int .u64 M, .int .i64 E] ∧ Below w.heap.size w (w2.alloc (.cells #[.bool c, .int .i64 k, .int .u64 M, .int .i64 E] 128))) := ⟨(F1.out.1).step ((Below.refl _ _).alloc (Nat.le_refl _) _), Bk.new4 w2 (.bool c) (.int .i64 k) (.int .u64 M) (.int .i64 E) 128, (F1.out.2).alloc ((F1.out.2).size) _⟩
 clear F1
 go_upto_region 2 with fail
 generalize (w2.alloc (.cells #[.bool c, .int .i64 k, .int .u64 M, .int .i64 E] 128)) = w3 at *
 have l1_0 := F2.out.1.lt
 have a1_0_0 := F2.out.1.cell 0 _ rfl
 have f1_0_0 := F2.out.1.fz 0
 have a1_0_1 := F2.out.1.cell 1 _ rfl
 have f1_0_1 := F2.out.1.fz 1
 have a1_0_2 := F2.out.1.cell 2 _ rfl
 have f1_0_2 := F2.out.1.fz 2
 have a1_0_3 := F2.out.1.cell 3 _ rfl
 have f1_0_3 := F2.out.1.fz 3
 have a1_0_4 := F2.out.1.cell 4 _ rfl
 have f1_0_4 := F2.out.1.fz 4
 have a1_0_5 := F2.out.1.cell 5 _ rfl
 have f1_0_5 := F2.out.1.fz 5
 have a1_0_6 := F2.out.1.cell 6 _ rfl
 have f1_0_6 := F2.out.1.fz 6
 have l1_1 := F2.out.2.1.lt
 have a1_1_0 := F2.out.2.1.cell 0 _ rfl
 have f1_1_0 := F2.out.2.1.fz 0
 have a1_1_1 := F2.out.2.1.cell 1 _ rfl
 have f1_1_1 := F2.out.2.1.fz 1
 have a1_1_2 := F2.out.2.1.cell 2 _ rfl
 have f1_1_2 := F2.out.2.1.fz 2
 have a1_1_3 := F2.out.2.1.cell 3 _ rfl
 have f1_1_3 := F2.out.2.1.fz 3
 have ne1_0_1 : ¬ w.heap.size = w2.heap.size := by omega
 have ne1_1_0 : ¬ w2.heap.size = w.heap.size := by omega
 go_upto_region 4 with fail
 go_region_held3 (fun w' => w'.cell? ⟨w2.heap.size, 0, none⟩ = some (.bool c) ∧ w'.cell? ⟨w2.heap.size, 1, none⟩ = some (.int .i64 k) ∧ w'.cell? ⟨w2.heap.size, 2, none⟩ = some (.int .u64 M) ∧ w'.cell? ⟨w2.heap.size, 3, none⟩ = some (.int .i64 E)) (simp [*, go_sem])
  (first | (go_at_call 118; refine (HL _).mono ?_; rintro p1 v1 ⟨rfl, bb⟩; have G1 : Hid (Bk v1 (w.heap.size) [.string ⟨#[]⟩, .int .i64 0, .bool false, .string ⟨#[]⟩, .int .i64 0, .bool false, .bool false] ∧ Bk v1 (w2.heap.size) [.bool c, .int .i64 k, .int .u64 M, .int .i64 E] ∧ Below w.heap.size w v1) := ⟨((F2.out.1).step (Below.refl _ _).drew).step bb, ((F2.out.2.1).step (Below.refl _ _).drew).step bb, ((F2.out.2.2).drew).trans (bb.mono (F2.out.2.2).size)⟩; clear bb; have d1 := G1.out.2.1.lt; have d1_0 := G1.out.2.1.cell 0 _ rfl; have d1_1 := G1.out.2.1.cell 1 _ rfl; have d1_2 := G1.out.2.1.cell 2 _ rfl; have d1_3 := G1.out.2.1.cell 3 _ rfl) | (go_at_call 119; refine (HH _).mono ?_; rintro p2 v2 ⟨rfl, bb⟩; have G2 : Hid (Bk v2 (w.heap.size) [.string ⟨#[]⟩, .int .i64 0, .bool false, .string ⟨#[]⟩, .int .i64 0, .bool false, .bool false] ∧ Bk v2 (w2.heap.size) [.bool c, .int .i64 k, .int .u64 M, .int .i64 E] ∧ Below w.heap.size w v2) := ⟨G1.out.1.step bb, G1.out.2.1.step bb, G1.out.2.2.trans (bb.mono G1.out.2.2.size)⟩; clear bb; have d2 := G2.out.1.lt; have h2_0 := G2.out.2.1.cell 0 _ rfl; have h2_1 := G2.out.2.1.cell 1 _ rfl; have h2_2 := G2.out.2.1.cell 2 _ rfl; have h2_3 := G2.out.2.1.cell 3 _ rfl; have d2_0 := G2.out.1.cell 0 _ rfl; have g2_0 := G2.out.1.fz 0; have d2_1 := G2.out.1.cell 1 _ rfl; have g2_1 := G2.out.1.fz 1; have d2_2 := G2.out.1.cell 2 _ rfl; have g2_2 := G2.out.1.fz 2; have d2_3 := G2.out.1.cell 3 _ rfl; have g2_3 := G2.out.1.fz 3; have d2_4 := G2.out.1.cell 4 _ rfl; have g2_4 := G2.out.1.fz 4; have d2_5 := G2.out.1.cell 5 _ rfl; have g2_5 := G2.out.1.fz 5; have d2_6 := G2.out.1.cell 6 _ rfl; have g2_6 := G2.out.1.fz 6))
 all_goals
  go_wp2
  refine bodyPost_ret (v := .tuple #[.agg #[.string s, .int .i64 p, .bool false, .string t, .int .i64 q, .bool false, .bool B], .nilIface]) (by simp [results, Tryz.results82, go_sem, World.cell?_setCell_same, World.cell?_setCell_other, *]) rfl ⟨rfl, ?_⟩
  repeat (first | refine Below.setCell ?_ (by first | exact Nat.le_refl _ | (dsimp only; omega)) _ | refine Below.drew ?_)
  exact G2.out.2.2
theorem bd_ok {b z : Int} {s t : ByteArray} {p q : Int} {c : Bool} (HS : ∀ W, Calls Tryz.prog 82 #[.int .u64 b, .int .i64 z] W fun e w' => e = .returned (.tuple #[.agg #[.string s, .int .i64 p, .bool false, .string t, .int .i64 q, .bool false, .bool c], .nilIface]) ∧ Below W.heap.size W w') (w : World) :
 Calls Tryz.prog 50 #[.int .u64 b, .int .i64 z] w fun x w' => x = .returned (.tuple #[.agg #[.string s, .int .i64 p, .bool false], .agg #[.string t, .int .i64 q, .bool false], .bool c, .nilIface]) ∧ Below w.heap.size w w' := by
 have F0 : Hid (Bk ((w.alloc (.cells #[.string ⟨#[]⟩, .int .i64 0, .bool false] 24)).alloc (.cells #[.string ⟨#[]⟩, .int .i64 0, .bool false] 24)) (w.heap.size) [.string ⟨#[]⟩, .int .i64 0, .bool false] ∧ Bk ((w.alloc (.cells #[.string ⟨#[]⟩, .int .i64 0, .bool false] 24)).alloc (.cells #[.string ⟨#[]⟩, .int .i64 0, .bool false] 24)) (w.heap.size + 1) [.string ⟨#[]⟩, .int .i64 0, .bool false] ∧ Below w.heap.size w ((w.alloc (.cells #[.string ⟨#[]⟩, .int .i64 0, .bool false] 24)).alloc (.cells #[.string ⟨#[]⟩, .int .i64 0, .bool false] 24))) := ⟨(Bk.new3 w (.string ⟨#[]⟩) (.int .i64 0) (.bool false) 24).step ((Below.refl _ _).alloc (Nat.le_refl _) _), ((by have q := Bk.new3 (w.alloc (.cells #[.string ⟨#[]⟩, .int .i64 0, .bool false] 24)) (.string ⟨#[]⟩) (.int .i64 0) (.bool false) 24; simpa using q) : Bk ((w.alloc (.cells #[.string ⟨#[]⟩, .int .i64 0, .bool false] 24)).alloc (.cells #[.string ⟨#[]⟩, .int .i64 0, .bool false] 24)) (w.heap.size + 1) [.string ⟨#[]⟩, .int .i64 0, .bool false]), (((Below.refl w.heap.size w)).alloc (Nat.le_refl _) _).alloc ((((Below.refl w.heap.size w)).alloc (Nat.le_refl _) _).size) _⟩
 go_enter Tryz.func50, Tryz.ntmps50
 go_upto_region 1 with fail
 generalize ((w.alloc (.cells #[.string ⟨#[]⟩, .int .i64 0, .bool false] 24)).alloc (.cells #[.string ⟨#[]⟩, .int .i64 0, .bool false] 24)) = w1 at *
 go_wp2_with fail
 all_goals first | (exfalso; omega) | skip
 refine (HS _).mono ?_
 rintro o2 w2 ⟨rfl, bb⟩
 have F1 : Hid (Bk w2 (w.heap.size) [.string ⟨#[]⟩, .int .i64 0, .bool false] ∧ Bk w2 (w.heap.size + 1) [.string ⟨#[]⟩, .int .i64 0, .bool false] ∧ Below w.heap.size w w2) := ⟨(F0.out.1).step bb, (F0.out.2.1).step bb, (F0.out.2.2).trans (bb.mono (F0.out.2.2).size)⟩
 clear F0
 clear bb
 have lt0_2 := (F1.out.1).lt
 have lt1_2 := (F1.out.2.1).lt
 have le2 := (F1.out.2.2).size
 have F2 : Hid (Bk (w2.alloc (.cells #[.string s, .int .i64 p, .bool false, .string t, .int .i64 q, .bool false, .bool c] 124)) (w.heap.size) [.string ⟨#[]⟩, .int .i64 0, .bool false] ∧ Bk (w2.alloc (.cells #[.string s, .int .i64 p, .bool false, .string t, .int .i64 q, .bool false, .bool c] 124)) (w.heap.size + 1) [.string ⟨#[]⟩, .int .i64 0, .bool false] ∧ Bk (w2.alloc (.cells #[.string s, .int .i64 p, .bool false, .string t, .int .i64 q, .bool false, .bool c] 124)) (w2.heap.size) [.string s, .int .i64 p, .bool false, .string t, .int .i64 q, .bool false, .bool c] ∧ Below w.heap.size w (w2.alloc (.cells #[.string s, .int .i64 p, .bool false, .string t, .int .i64 q, .bool false, .bool c] 124))) := ⟨(F1.out.1).step ((Below.refl _ _).alloc (Nat.le_refl _) _), (F1.out.2.1).step ((Below.refl _ _).alloc (Nat.le_refl _) _), Bk.new7 w2 (.string s) (.int .i64 p) (.bool false) (.string t) (.int .i64 q) (.bool false) (.bool c) 124, (F1.out.2.2).alloc ((F1.out.2.2).size) _⟩
 clear F1
 go_upto_region 2 with fail
 generalize (w2.alloc (.cells #[.string s, .int .i64 p, .bool false, .string t, .int .i64 q, .bool false, .bool c] 124)) = w3 at *
 have l1_0 := F2.out.1.lt
 have a1_0_0 := F2.out.1.cell 0 _ rfl
 have f1_0_0 := F2.out.1.fz 0
 have a1_0_1 := F2.out.1.cell 1 _ rfl
 have f1_0_1 := F2.out.1.fz 1
 have a1_0_2 := F2.out.1.cell 2 _ rfl
 have f1_0_2 := F2.out.1.fz 2
 have l1_1 := F2.out.2.1.lt
 have a1_1_0 := F2.out.2.1.cell 0 _ rfl
 have f1_1_0 := F2.out.2.1.fz 0
 have a1_1_1 := F2.out.2.1.cell 1 _ rfl
 have f1_1_1 := F2.out.2.1.fz 1
 have a1_1_2 := F2.out.2.1.cell 2 _ rfl
 have f1_1_2 := F2.out.2.1.fz 2
 have l1_2 := F2.out.2.2.1.lt
 have a1_2_0 := F2.out.2.2.1.cell 0 _ rfl
 have f1_2_0 := F2.out.2.2.1.fz 0
 have a1_2_1 := F2.out.2.2.1.cell 1 _ rfl
 have f1_2_1 := F2.out.2.2.1.fz 1
 have a1_2_2 := F2.out.2.2.1.cell 2 _ rfl
 have f1_2_2 := F2.out.2.2.1.fz 2
 have a1_2_3 := F2.out.2.2.1.cell 3 _ rfl
 have f1_2_3 := F2.out.2.2.1.fz 3
 have a1_2_4 := F2.out.2.2.1.cell 4 _ rfl
 have f1_2_4 := F2.out.2.2.1.fz 4
 have a1_2_5 := F2.out.2.2.1.cell 5 _ rfl
 have f1_2_5 := F2.out.2.2.1.fz 5
 have a1_2_6 := F2.out.2.2.1.cell 6 _ rfl
 have f1_2_6 := F2.out.2.2.1.fz 6
 have ne1_0_1 : ¬ w.heap.size = w.heap.size + 1 := by omega
 have ne1_0_2 : ¬ w.heap.size = w2.heap.size := by omega
 have ne1_1_0 : ¬ w.heap.size + 1 = w.heap.size := by omega
 have ne1_1_2 : ¬ w.heap.size + 1 = w2.heap.size := by omega
 have ne1_2_0 : ¬ w2.heap.size = w.heap.size := by omega
 have ne1_2_1 : ¬ w2.heap.size = w.heap.size + 1 := by omega
 go_upto_region 4 with fail
 go_region_held3 (fun w' => w'.cell? ⟨w2.heap.size, 0, none⟩ = some (.string s) ∧ w'.cell? ⟨w2.heap.size, 1, none⟩ = some (.int .i64 p) ∧ w'.cell? ⟨w2.heap.size, 2, none⟩ = some (.bool false) ∧ w'.cell? ⟨w2.heap.size, 3, none⟩ = some (.string t) ∧ w'.cell? ⟨w2.heap.size, 4, none⟩ = some (.int .i64 q) ∧ w'.cell? ⟨w2.heap.size, 5, none⟩ = some (.bool false) ∧ w'.cell? ⟨w2.heap.size, 6, none⟩ = some (.bool c)) (simp [*, go_sem]) (fail)
 go_wp2
 refine bodyPost_ret (v := .tuple #[.agg #[.string s, .int .i64 p, .bool false], .agg #[.string t, .int .i64 q, .bool false], .bool c, .nilIface]) (by simp [results, Tryz.results50, go_sem, World.cell?_setCell_same, World.cell?_setCell_other, *]) rfl ⟨rfl, ?_⟩
 refine Below.drew ?_
 repeat (first | refine Below.setCell ?_ (by first | exact Nat.le_refl _ | (dsimp only; omega)) _ | refine Below.alloc ?_ (by first | exact Nat.le_refl _ | omega | (simp; omega)) _ | refine Below.drew ?_)
 exact F2.out.2.2.2
def Sf (z : Int) (f T : Nat) (L : Int) (S I : Nat) : Prop :=
 (z = 32 ∧ f = 23 ∧ T = 255 ∧ L = -149 ∧ S = 2147483648 ∧ I = 2139095040) ∨ (z = 64 ∧ f = 52 ∧ T = 2047 ∧ L = -1074 ∧ S = 9223372036854775808 ∧ I = 9218868437227405312)
structure Fn (z : Int) (f T : Nat) (L : Int) (S I b : Nat) : Prop where
 sf : Sf z f T L S I
 lt : b < 2 * S
 fin : mg S b < I
theorem Sf.fs {z : Int} {f T : Nat} {L : Int} {S I : Nat} (h : Sf z f T L S I) : Fs f T L ∧ I = T * 2 ^ f ∧ 2 * S ≤ 18446744073709551616 ∧ 2 ≤ S ∧ S % 2 = 0 ∧ 1 < I ∧ I < S := by
 rcases h with ⟨_, rfl, rfl, rfl, rfl, rfl⟩ | ⟨_, rfl, rfl, rfl, rfl, rfl⟩
 · exact ⟨Or.inl ⟨rfl, rfl, rfl⟩, by decide, by omega, by omega, by omega, by omega, by omega⟩
 · exact ⟨Or.inr ⟨rfl, rfl, rfl⟩, by decide, by omega, by omega, by omega, by omega, by omega⟩
theorem unp_any {z : Int} {f T : Nat} {L : Int} {S I b : Nat} (h : Sf z f T L S I) (hb : b < 2 * S) (w : World) :
 Calls Tryz.prog 120 #[.int .u64 (b : Int), .int .i64 z] w fun e w' => e = .returned (.tuple #[.agg #[.bool (uN S I b), .int .i64 (cl I (mg S b)), .int .u64 ((uM I f (mg S b) : Nat) : Int), .int .i64 (uE I f L (mg S b))], .nilIface]) ∧ Below w.heap.size w w' := by
 rcases h with ⟨rfl, rfl, rfl, rfl, rfl, rfl⟩ | ⟨rfl, rfl, rfl, rfl, rfl, rfl⟩
 · exact unp_32 (by omega) w
 · exact unp_64 (by omega) w
theorem cls_any {z : Int} {f T : Nat} {L : Int} {S I b : Nat} (h : Sf z f T L S I) (hb : b < 2 * S) (w : World) :
 Calls Tryz.prog 166 #[.int .u64 (b : Int), .int .i64 z] w fun e w' => e = .returned (.tuple #[.int .i64 (cl I (mg S b)), .nilIface]) ∧ Below w.heap.size w w' := by
 rcases h with ⟨rfl, rfl, rfl, rfl, rfl, rfl⟩ | ⟨rfl, rfl, rfl, rfl, rfl, rfl⟩
 · exact cls_32 (by omega) w
 · exact cls_64 (by omega) w
theorem least_any {z : Int} {f T : Nat} {L : Int} {S I : Nat} (h : Sf z f T L S I) (w : World) :
 Calls Tryz.prog 121 #[.int .i64 z] w fun e w' => e = .returned (.tuple #[.int .u64 1, .nilIface]) ∧ Below w.heap.size w w' := by
 rcases h with ⟨rfl, _⟩ | ⟨rfl, _⟩
 · exact bleast_32 w
 · exact bleast_64 w
theorem xp_one {f : Nat} (hf : 1 ≤ f) (L : Int) : xp f L 1 = L ∧ xp f L 0 = L ∧ mt f 0 = 0 := by
 have p : 2 ≤ 2 ^ f := by
  have := Nat.pow_le_pow_right (n := 2) (by omega) hf
  omega
 have e : 1 / 2 ^ f = 0 := Nat.div_eq_of_lt (by omega)
 refine ⟨?_, ?_, ?_⟩
 · unfold xp; rw [e, if_pos rfl]
 · unfold xp; rw [Nat.zero_div, if_pos rfl]
 · unfold mt; rw [Nat.zero_div, if_pos rfl]
theorem Fs.one {f T : Nat} {L : Int} (h : Fs f T L) : 1 ≤ f := by rcases h with ⟨rfl, _⟩ | ⟨rfl, _⟩ <;> omega
theorem mg_b0 {S b : Nat} (m0 : mg S b ≠ 0) : 1 ≤ b := by
 apply Nat.pos_of_ne_zero
 intro c
 apply m0
 unfold mg
 rw [c, Nat.zero_mod]
theorem Fn.m {z : Int} {f T : Nat} {L : Int} {S I b : Nat} (h : Fn z f T L S I b) : mg S b < T * 2 ^ f := by rw [← h.sf.fs.2.1]; exact h.fin
theorem fin_ok {z : Int} {f T : Nat} {L : Int} {S I b : Nat} (h : Fn z f T L S I b) (w : World) :
 Calls Tryz.prog 83 #[.int .u64 (b : Int), .int .i64 z] w fun e w' => e = .returned (.tuple #[.agg #[.bool (uN S I b), .int .i64 (cl I (mg S b)), .int .u64 ((mt f (mg S b) : Nat) : Int), .int .i64 (xp f L (mg S b))], .nilIface]) ∧ Below w.heap.size w w' := by
 have U := fun W => unp_any h.sf h.lt W
 obtain ⟨fs, hI, _, hS, _, hI1, hIS⟩ := h.sf.fs
 have hx := xp_one fs.one L
 by_cases m0 : mg S b = 0
 · have c1 : cl I (mg S b) = 1 := by rw [m0]; exact cl_zero I
   have e1 : uM I f (mg S b) = 0 := if_neg (by rw [c1]; decide)
   have e2 : uE I f L (mg S b) = 0 := if_neg (by rw [c1]; decide)
   have U1 := fun W => unp_any (b := 1) h.sf (by omega) W
   have g1 : mg S 1 = 1 := Nat.mod_eq_of_lt (by omega)
   have e4 : uE I f L (mg S 1) = xp f L (mg S b) := by
    rw [g1, m0, hx.2.1]
    show (if cl I 1 = 2 then xp f L 1 else 0) = L
    rw [if_pos (cl_fine (by decide) hI1), hx.1]
   rw [e1, e2, c1] at U
   rw [e4] at U1
   rw [c1, show ((mt f (mg S b) : Nat) : Int) = 0 by rw [m0, hx.2.2]; rfl]
   exact fin_zero U (fun W => least_any h.sf W) U1 w
 · have c2 : cl I (mg S b) = 2 := cl_fine m0 h.fin
   have e1 : uM I f (mg S b) = mt f (mg S b) := if_pos c2
   have e2 : uE I f L (mg S b) = xp f L (mg S b) := if_pos c2
   rw [e1, e2, c2] at U
   rw [c2]
   exact fin_fine U w
theorem high_is {z : Int} {f T : Nat} {L : Int} {S I b : Nat} (h : Fn z f T L S I b) {c : Bool} {k : Int} {t : ByteArray} {q : Int} (D : Dx t q (hiF f L (mg S b))) (w : World) :
 Calls Tryz.prog 119 #[.agg #[.bool c, .int .i64 k, .int .u64 ((mt f (mg S b) : Nat) : Int), .int .i64 (xp f L (mg S b))]] w fun e w' => e = .returned (dcV t q false) ∧ Below w.heap.size w w' := by
 have fs := h.sf.fs.1
 have x := xp_in fs h.m
 have m := mt_lt fs (mg S b)
 refine high_ok (by omega) x.1 x.2 (fun W => ?_) w
 have q := pdec_any (m := 2 * mt f (mg S b) + 1) (e := xp f L (mg S b) - 1) (by omega) (by omega) (by omega) (by omega) D W
 rw [show ((2 * mt f (mg S b) + 1 : Nat) : Int) = 2 * ((mt f (mg S b) : Nat) : Int) + 1 by omega] at q
 exact q
theorem Fn.prev {z : Int} {f T : Nat} {L : Int} {S I b : Nat} (h : Fn z f T L S I b) (m0 : mg S b ≠ 0) : Fn z f T L S I (b - 1) ∧ mg S (b - 1) + 1 = mg S b := by
 obtain ⟨_, _, _, hS, _, _, hIS⟩ := h.sf.fs
 have lt := h.lt
 have fin := h.fin
 have e : mg S (b - 1) + 1 = mg S b := by
  unfold mg at m0 ⊢
  have dm := Nat.div_add_mod b S
  have ml := Nat.mod_lt b (show 0 < S by omega)
  have : b - 1 = S * (b / S) + (b % S - 1) := by omega
  rw [this, Nat.mul_add_mod, Nat.mod_eq_of_lt (by omega)]
  omega
 exact ⟨⟨h.sf, by omega, by omega⟩, e⟩
theorem prev_is {z : Int} {f T : Nat} {L : Int} {S I b : Nat} (h : Fn z f T L S I b) (m0 : mg S b ≠ 0) (w : World) : Calls Tryz.prog 141 #[.int .u64 (b : Int), .int .i64 z] w fun e w' => e = .returned (.tuple #[.int .u64 ((b - 1 : Nat) : Int), .nilIface]) ∧ Below w.heap.size w w' := by
 have b0 := mg_b0 m0
 have lt := h.lt
 have s2 := h.sf.fs.2.2.1
 have c2 : cl I (mg S b) = 2 := cl_fine m0 h.fin
 have q := prev_ok (b := (b : Int)) (s := z) (c := 2) rfl rfl (by omega) (by omega) (fun W => by have := cls_any h.sf h.lt W; rw [c2] at this; exact this) w
 rw [show (b : Int) - 1 = ((b - 1 : Nat) : Int) by omega] at q
 exact q
theorem low_is {z : Int} {f T : Nat} {L : Int} {S I b : Nat} (h : Fn z f T L S I b) {s : ByteArray} {p : Int} (D : Dx s p (loF f L (mg S b))) (w : World) :
 Calls Tryz.prog 118 #[.int .u64 (b : Int), .int .i64 z] w fun e w' => e = .returned (dcV s p false) ∧ Below w.heap.size w w' := by
 by_cases m0 : mg S b = 0
 · have c1 : cl I (mg S b) = 1 := by rw [m0]; exact cl_zero I
   rw [m0] at D
   obtain ⟨rfl, rfl⟩ := Dx.uniq D dx_nought
   exact low_none (fun W => prev_end (fun W => by have := cls_any h.sf h.lt W; rw [c1] at this; exact this) W) w
 · obtain ⟨g, e⟩ := Fn.prev h m0
   rw [← e] at D
   exact low_some (fun W => prev_is h m0 W) (fun W => fin_ok g W) (fun W => high_is g D W) w
theorem span_is {z : Int} {f T : Nat} {L : Int} {S I b : Nat} (h : Fn z f T L S I b) {s t : ByteArray} {p q : Int} (D : Dx s p (loF f L (mg S b))) (E : Dx t q (hiF f L (mg S b))) (w : World) :
 Calls Tryz.prog 82 #[.int .u64 (b : Int), .int .i64 z] w fun e w' => e = .returned (.tuple #[.agg #[.string s, .int .i64 p, .bool false, .string t, .int .i64 q, .bool false, .bool (decide (b % 2 = 0))], .nilIface]) ∧ Below w.heap.size w w' :=
 span_ok (by have := h.lt; have := h.sf.fs.2.2.1; omega) (fun W => fin_ok h W) (fun W => low_is h D W) (fun W => high_is h E W) w
theorem ex_is {z : Int} {f T : Nat} {L : Int} {S I b : Nat} (h : Fn z f T L S I b) {s : ByteArray} {p : Int} (D : Dx s p (vlF f L (mg S b))) (w : World) :
 Calls Tryz.prog 51 #[.int .u64 (b : Int), .int .i64 z] w fun e w' => e = .returned (.tuple #[dcV s p false, .nilIface]) ∧ Below w.heap.size w w' := by
 have fs := h.sf.fs.1
 have x := xp_in fs h.m
 have m := mt_lt fs (mg S b)
 refine ex_ok (fun W => fin_ok h W) (fun W => pdec_any (by omega) (by omega) (by omega) ?_ D W) w
 by_cases m0 : mg S b = 0
 · right
   rw [m0, (xp_one fs.one L).2.1]
   rcases fs with ⟨_, _, rfl⟩ | ⟨_, _, rfl⟩ <;> omega
 · exact Or.inl (mt_some m0)
theorem bd_is {z : Int} {f T : Nat} {L : Int} {S I b : Nat} (h : Fn z f T L S I b) {s t : ByteArray} {p q : Int} (D : Dx s p (loF f L (mg S b))) (E : Dx t q (hiF f L (mg S b))) (w : World) :
 Calls Tryz.prog 50 #[.int .u64 (b : Int), .int .i64 z] w fun e w' => e = .returned (.tuple #[dcV s p false, dcV t q false, .bool (decide (b % 2 = 0)), .nilIface]) ∧ Below w.heap.size w w' :=
 bd_ok (fun W => span_is h D E W) w
theorem Fn.has {z : Int} {f T : Nat} {L : Int} {S I b : Nat} (h : Fn z f T L S I b) : (∃ s p, Dx s p (loF f L (mg S b))) ∧ (∃ t q, Dx t q (hiF f L (mg S b))) ∧ ∃ u o, Dx u o (vlF f L (mg S b)) := by
 have fs := h.sf.fs.1
 have hi : ∀ k, k < T * 2 ^ f → ∃ t q, Dx t q (hiF f L k) := fun k hk => by
  have x := xp_in fs hk
  have m := mt_lt fs k
  exact dx_has (by omega) (by omega) (by omega)
 have x := xp_in fs h.m
 have m := mt_lt fs (mg S b)
 refine ⟨?_, hi _ h.m, dx_has (by omega) (by omega) (by omega)⟩
 by_cases m0 : mg S b = 0
 · rw [m0]; exact ⟨_, _, dx_nought⟩
 · obtain ⟨k, e⟩ : ∃ k, mg S b = k + 1 := ⟨mg S b - 1, by omega⟩
   have := h.m
   rw [e] at this ⊢
   exact hi k (by omega)
theorem Bk.newL (W : World) (l : List Value) (T : TypeId) : Bk (W.alloc (.cells l.toArray T)) W.heap.size l :=
 ⟨by simp, fun i v q => by
  have e := World.cell?_alloc_new (w := W) l.toArray T i
  rw [e]
  simpa using q, fun i => World.frozen?_alloc_new _ _ _ _⟩
theorem lowF_in (s : ByteArray) (p : Int) (t : ByteArray) (q : Int) : lowF s p t q = -1 ∨ lowF s p t q = 0 ∨ lowF s p t q = 1 := by
 have k : ∀ x y : Int, cmpI x y = -1 ∨ cmpI x y = 0 ∨ cmpI x y = 1 := fun x y => by unfold cmpI; split <;> (try split) <;> simp
 unfold lowF
 split
 · exact Or.inr (Or.inl rfl)
 · split
   · exact Or.inl rfl
   · split
     · exact Or.inr (Or.inr rfl)
     · split
       · exact Or.inl rfl
       · split
         · exact Or.inr (Or.inr rfl)
         · exact k _ _
theorem ssp_ok {b z : Int} {s t : ByteArray} {p q : Int} {c : Bool} {u : ByteArray} {o : Int} (HB : ∀ W, Calls Tryz.prog 50 #[.int .u64 b, .int .i64 z] W fun e w' => e = .returned (.tuple #[.agg #[.string s, .int .i64 p, .bool false], .agg #[.string t, .int .i64 q, .bool false], .bool c, .nilIface]) ∧ Below W.heap.size W w') (HE : ∀ W, Calls Tryz.prog 51 #[.int .u64 b, .int .i64 z] W fun e w' => e = .returned (.tuple #[.agg #[.string u, .int .i64 o, .bool false], .nilIface]) ∧ Below W.heap.size W w') (w : World) :
 Calls Tryz.prog 28 #[.int .u64 b, .int .i64 z] w fun x w' => x = .returned (.tuple #[.agg #[.string s, .int .i64 p, .bool false, .string t, .int .i64 q, .bool false, .bool c], .agg #[.string u, .int .i64 o, .bool false], .nilIface]) ∧ Below w.heap.size w w' := by
 have F0 : Hid (Bk ((w.alloc (.cells #[.string ⟨#[]⟩, .int .i64 0, .bool false, .string ⟨#[]⟩, .int .i64 0, .bool false, .bool false] 59)).alloc (.cells #[.string ⟨#[]⟩, .int .i64 0, .bool false] 24)) (w.heap.size) [.string ⟨#[]⟩, .int .i64 0, .bool false, .string ⟨#[]⟩, .int .i64 0, .bool false, .bool false] ∧ Bk ((w.alloc (.cells #[.string ⟨#[]⟩, .int .i64 0, .bool false, .string ⟨#[]⟩, .int .i64 0, .bool false, .bool false] 59)).alloc (.cells #[.string ⟨#[]⟩, .int .i64 0, .bool false] 24)) (w.heap.size + 1) [.string ⟨#[]⟩, .int .i64 0, .bool false] ∧ Below w.heap.size w ((w.alloc (.cells #[.string ⟨#[]⟩, .int .i64 0, .bool false, .string ⟨#[]⟩, .int .i64 0, .bool false, .bool false] 59)).alloc (.cells #[.string ⟨#[]⟩, .int .i64 0, .bool false] 24))) := ⟨(Bk.new7 w (.string ⟨#[]⟩) (.int .i64 0) (.bool false) (.string ⟨#[]⟩) (.int .i64 0) (.bool false) (.bool false) 59).step ((Below.refl _ _).alloc (Nat.le_refl _) _), ((by have q := Bk.new3 (w.alloc (.cells #[.string ⟨#[]⟩, .int .i64 0, .bool false, .string ⟨#[]⟩, .int .i64 0, .bool false, .bool false] 59)) (.string ⟨#[]⟩) (.int .i64 0) (.bool false) 24; simpa using q) : Bk ((w.alloc (.cells #[.string ⟨#[]⟩, .int .i64 0, .bool false, .string ⟨#[]⟩, .int .i64 0, .bool false, .bool false] 59)).alloc (.cells #[.string ⟨#[]⟩, .int .i64 0, .bool false] 24)) (w.heap.size + 1) [.string ⟨#[]⟩, .int .i64 0, .bool false]), (((Below.refl w.heap.size w)).alloc (Nat.le_refl _) _).alloc ((((Below.refl w.heap.size w)).alloc (Nat.le_refl _) _).size) _⟩
 go_enter Tryz.func28, Tryz.ntmps28
 go_upto_region 1 with fail
 generalize ((w.alloc (.cells #[.string ⟨#[]⟩, .int .i64 0, .bool false, .string ⟨#[]⟩, .int .i64 0, .bool false, .bool false] 59)).alloc (.cells #[.string ⟨#[]⟩, .int .i64 0, .bool false] 24)) = w1 at *
 go_wp2_with fail
 all_goals first | (exfalso; omega) | skip
 refine (HB _).mono ?_
 rintro o2 w2 ⟨rfl, bb⟩
 have F1 : Hid (Bk w2 (w.heap.size) [.string ⟨#[]⟩, .int .i64 0, .bool false, .string ⟨#[]⟩, .int .i64 0, .bool false, .bool false] ∧ Bk w2 (w.heap.size + 1) [.string ⟨#[]⟩, .int .i64 0, .bool false] ∧ Below w.heap.size w w2) := ⟨(F0.out.1).step bb, (F0.out.2.1).step bb, (F0.out.2.2).trans (bb.mono (F0.out.2.2).size)⟩
 clear F0
 clear bb
 have lt0_2 := (F1.out.1).lt
 have lt1_2 := (F1.out.2.1).lt
 have le2 := (F1.out.2.2).size
 have F2 : Hid (Bk ((w2.alloc (.cells #[.string s, .int .i64 p, .bool false] 24)).alloc (.cells #[.string t, .int .i64 q, .bool false] 24)) (w.heap.size) [.string ⟨#[]⟩, .int .i64 0, .bool false, .string ⟨#[]⟩, .int .i64 0, .bool false, .bool false] ∧ Bk ((w2.alloc (.cells #[.string s, .int .i64 p, .bool false] 24)).alloc (.cells #[.string t, .int .i64 q, .bool false] 24)) (w.heap.size + 1) [.string ⟨#[]⟩, .int .i64 0, .bool false] ∧ Bk ((w2.alloc (.cells #[.string s, .int .i64 p, .bool false] 24)).alloc (.cells #[.string t, .int .i64 q, .bool false] 24)) (w2.heap.size) [.string s, .int .i64 p, .bool false] ∧ Bk ((w2.alloc (.cells #[.string s, .int .i64 p, .bool false] 24)).alloc (.cells #[.string t, .int .i64 q, .bool false] 24)) (w2.heap.size + 1) [.string t, .int .i64 q, .bool false] ∧ Below w.heap.size w ((w2.alloc (.cells #[.string s, .int .i64 p, .bool false] 24)).alloc (.cells #[.string t, .int .i64 q, .bool false] 24))) := ⟨((F1.out.1).step ((Below.refl _ _).alloc (Nat.le_refl _) _)).step ((Below.refl _ _).alloc (Nat.le_refl _) _), ((F1.out.2.1).step ((Below.refl _ _).alloc (Nat.le_refl _) _)).step ((Below.refl _ _).alloc (Nat.le_refl _) _), (Bk.new3 w2 (.string s) (.int .i64 p) (.bool false) 24).step ((Below.refl _ _).alloc (Nat.le_refl _) _), ((by have q := Bk.new3 (w2.alloc (.cells #[.string s, .int .i64 p, .bool false] 24)) (.string t) (.int .i64 q) (.bool false) 24; simpa using q) : Bk ((w2.alloc (.cells #[.string s, .int .i64 p, .bool false] 24)).alloc (.cells #[.string t, .int .i64 q, .bool false] 24)) (w2.heap.size + 1) [.string t, .int .i64 q, .bool false]), ((F1.out.2.2).alloc ((F1.out.2.2).size) _).alloc (((F1.out.2.2).alloc ((F1.out.2.2).size) _).size) _⟩
 clear F1
 go_upto_region 2 with fail
 generalize ((w2.alloc (.cells #[.string s, .int .i64 p, .bool false] 24)).alloc (.cells #[.string t, .int .i64 q, .bool false] 24)) = w3 at *
 go_wp2_with fail
 all_goals first | (exfalso; omega) | skip
 refine (HE _).mono ?_
 rintro o4 w4 ⟨rfl, bb⟩
 have F3 : Hid (Bk w4 (w.heap.size) [.string ⟨#[]⟩, .int .i64 0, .bool false, .string ⟨#[]⟩, .int .i64 0, .bool false, .bool false] ∧ Bk w4 (w.heap.size + 1) [.string ⟨#[]⟩, .int .i64 0, .bool false] ∧ Bk w4 (w2.heap.size) [.string s, .int .i64 p, .bool false] ∧ Bk w4 (w2.heap.size + 1) [.string t, .int .i64 q, .bool false] ∧ Below w.heap.size w w4) := ⟨(F2.out.1).step bb, (F2.out.2.1).step bb, (F2.out.2.2.1).step bb, (F2.out.2.2.2.1).step bb, (F2.out.2.2.2.2).trans (bb.mono (F2.out.2.2.2.2).size)⟩
 clear F2
 clear bb
 have lt0_4 := (F3.out.1).lt
 have lt1_4 := (F3.out.2.1).lt
 have lt2_4 := (F3.out.2.2.1).lt
 have lt3_4 := (F3.out.2.2.2.1).lt
 have le4 := (F3.out.2.2.2.2).size
 have F4 : Hid (Bk (w4.alloc (.cells #[.string u, .int .i64 o, .bool false] 24)) (w.heap.size) [.string ⟨#[]⟩, .int .i64 0, .bool false, .string ⟨#[]⟩, .int .i64 0, .bool false, .bool false] ∧ Bk (w4.alloc (.cells #[.string u, .int .i64 o, .bool false] 24)) (w.heap.size + 1) [.string ⟨#[]⟩, .int .i64 0, .bool false] ∧ Bk (w4.alloc (.cells #[.string u, .int .i64 o, .bool false] 24)) (w2.heap.size) [.string s, .int .i64 p, .bool false] ∧ Bk (w4.alloc (.cells #[.string u, .int .i64 o, .bool false] 24)) (w2.heap.size + 1) [.string t, .int .i64 q, .bool false] ∧ Bk (w4.alloc (.cells #[.string u, .int .i64 o, .bool false] 24)) (w4.heap.size) [.string u, .int .i64 o, .bool false] ∧ Below w.heap.size w (w4.alloc (.cells #[.string u, .int .i64 o, .bool false] 24))) := ⟨(F3.out.1).step ((Below.refl _ _).alloc (Nat.le_refl _) _), (F3.out.2.1).step ((Below.refl _ _).alloc (Nat.le_refl _) _), (F3.out.2.2.1).step ((Below.refl _ _).alloc (Nat.le_refl _) _), (F3.out.2.2.2.1).step ((Below.refl _ _).alloc (Nat.le_refl _) _), Bk.new3 w4 (.string u) (.int .i64 o) (.bool false) 24, (F3.out.2.2.2.2).alloc ((F3.out.2.2.2.2).size) _⟩
 clear F3
 go_upto_region 5 with fail
 generalize (w4.alloc (.cells #[.string u, .int .i64 o, .bool false] 24)) = w5 at *
 have l1_0 := F4.out.1.lt
 have a1_0_0 := F4.out.1.cell 0 _ rfl
 have f1_0_0 := F4.out.1.fz 0
 have a1_0_1 := F4.out.1.cell 1 _ rfl
 have f1_0_1 := F4.out.1.fz 1
 have a1_0_2 := F4.out.1.cell 2 _ rfl
 have f1_0_2 := F4.out.1.fz 2
 have a1_0_3 := F4.out.1.cell 3 _ rfl
 have f1_0_3 := F4.out.1.fz 3
 have a1_0_4 := F4.out.1.cell 4 _ rfl
 have f1_0_4 := F4.out.1.fz 4
 have a1_0_5 := F4.out.1.cell 5 _ rfl
 have f1_0_5 := F4.out.1.fz 5
 have a1_0_6 := F4.out.1.cell 6 _ rfl
 have f1_0_6 := F4.out.1.fz 6
 have l1_1 := F4.out.2.1.lt
 have a1_1_0 := F4.out.2.1.cell 0 _ rfl
 have f1_1_0 := F4.out.2.1.fz 0
 have a1_1_1 := F4.out.2.1.cell 1 _ rfl
 have f1_1_1 := F4.out.2.1.fz 1
 have a1_1_2 := F4.out.2.1.cell 2 _ rfl
 have f1_1_2 := F4.out.2.1.fz 2
 have l1_2 := F4.out.2.2.1.lt
 have a1_2_0 := F4.out.2.2.1.cell 0 _ rfl
 have f1_2_0 := F4.out.2.2.1.fz 0
 have a1_2_1 := F4.out.2.2.1.cell 1 _ rfl
 have f1_2_1 := F4.out.2.2.1.fz 1
 have a1_2_2 := F4.out.2.2.1.cell 2 _ rfl
 have f1_2_2 := F4.out.2.2.1.fz 2
 have l1_3 := F4.out.2.2.2.1.lt
 have a1_3_0 := F4.out.2.2.2.1.cell 0 _ rfl
 have f1_3_0 := F4.out.2.2.2.1.fz 0
 have a1_3_1 := F4.out.2.2.2.1.cell 1 _ rfl
 have f1_3_1 := F4.out.2.2.2.1.fz 1
 have a1_3_2 := F4.out.2.2.2.1.cell 2 _ rfl
 have f1_3_2 := F4.out.2.2.2.1.fz 2
 have l1_4 := F4.out.2.2.2.2.1.lt
 have a1_4_0 := F4.out.2.2.2.2.1.cell 0 _ rfl
 have f1_4_0 := F4.out.2.2.2.2.1.fz 0
 have a1_4_1 := F4.out.2.2.2.2.1.cell 1 _ rfl
 have f1_4_1 := F4.out.2.2.2.2.1.fz 1
 have a1_4_2 := F4.out.2.2.2.2.1.cell 2 _ rfl
 have f1_4_2 := F4.out.2.2.2.2.1.fz 2
 have ne1_0_1 : ¬ w.heap.size = w.heap.size + 1 := by omega
 have ne1_0_2 : ¬ w.heap.size = w2.heap.size := by omega
 have ne1_0_3 : ¬ w.heap.size = w2.heap.size + 1 := by omega
 have ne1_0_4 : ¬ w.heap.size = w4.heap.size := by omega
 have ne1_1_0 : ¬ w.heap.size + 1 = w.heap.size := by omega
 have ne1_1_2 : ¬ w.heap.size + 1 = w2.heap.size := by omega
 have ne1_1_3 : ¬ w.heap.size + 1 = w2.heap.size + 1 := by omega
 have ne1_1_4 : ¬ w.heap.size + 1 = w4.heap.size := by omega
 have ne1_2_0 : ¬ w2.heap.size = w.heap.size := by omega
 have ne1_2_1 : ¬ w2.heap.size = w.heap.size + 1 := by omega
 have ne1_2_3 : ¬ w2.heap.size = w2.heap.size + 1 := by omega
 have ne1_2_4 : ¬ w2.heap.size = w4.heap.size := by omega
 have ne1_3_0 : ¬ w2.heap.size + 1 = w.heap.size := by omega
 have ne1_3_1 : ¬ w2.heap.size + 1 = w.heap.size + 1 := by omega
 have ne1_3_2 : ¬ w2.heap.size + 1 = w2.heap.size := by omega
 have ne1_3_4 : ¬ w2.heap.size + 1 = w4.heap.size := by omega
 have ne1_4_0 : ¬ w4.heap.size = w.heap.size := by omega
 have ne1_4_1 : ¬ w4.heap.size = w.heap.size + 1 := by omega
 have ne1_4_2 : ¬ w4.heap.size = w2.heap.size := by omega
 have ne1_4_3 : ¬ w4.heap.size = w2.heap.size + 1 := by omega
 go_region_held3 (fun w' => w'.cell? ⟨w2.heap.size, 0, none⟩ = some (.string s) ∧ w'.cell? ⟨w2.heap.size, 1, none⟩ = some (.int .i64 p) ∧ w'.cell? ⟨w2.heap.size, 2, none⟩ = some (.bool false) ∧ w'.cell? ⟨w2.heap.size + 1, 0, none⟩ = some (.string t) ∧ w'.cell? ⟨w2.heap.size + 1, 1, none⟩ = some (.int .i64 q) ∧ w'.cell? ⟨w2.heap.size + 1, 2, none⟩ = some (.bool false) ∧ w'.cell? ⟨w4.heap.size, 0, none⟩ = some (.string u) ∧ w'.cell? ⟨w4.heap.size, 1, none⟩ = some (.int .i64 o) ∧ w'.cell? ⟨w4.heap.size, 2, none⟩ = some (.bool false)) (simp [*, go_sem]) (fail)
 go_wp2
 refine bodyPost_ret (v := .tuple #[.agg #[.string s, .int .i64 p, .bool false, .string t, .int .i64 q, .bool false, .bool c], .agg #[.string u, .int .i64 o, .bool false], .nilIface]) (by simp [results, Tryz.results28, go_sem, World.cell?_setCell_same, World.cell?_setCell_other, *]) rfl ⟨rfl, ?_⟩
 refine Below.drew ?_
 repeat (first | refine Below.setCell ?_ (by first | exact Nat.le_refl _ | (dsimp only; omega)) _ | refine Below.alloc ?_ (by first | exact Nat.le_refl _ | omega | (simp; omega)) _ | refine Below.drew ?_)
 exact F4.out.2.2.2.2.2
theorem idx_ends0 (s : ByteArray) (p : Int) (t : ByteArray) (q : Int) (W : World) : (Instr.index 57 (.agg #[.string s, .int .i64 p, .bool false, .string t, .int .i64 q, .bool false]) (.int .i64 0)).run Tryz.prog W = .ok (.agg #[.string s, .int .i64 p, .bool false]) W := by kernel_rfl
theorem idx_ends1 (s : ByteArray) (p : Int) (t : ByteArray) (q : Int) (W : World) : (Instr.index 57 (.agg #[.string s, .int .i64 p, .bool false, .string t, .int .i64 q, .bool false]) (.int .i64 1)).run Tryz.prog W = .ok (.agg #[.string t, .int .i64 q, .bool false]) W := by kernel_rfl
theorem shold_any {s t u : ByteArray} {p q o l h : Int} {c : Bool} (hl : l = -1 ∨ l = 0 ∨ l = 1) (hh : h = -1 ∨ h = 0 ∨ h = 1) (HC : ∀ W, Calls Tryz.prog 32 #[.agg #[.string u, .int .i64 o, .bool false], .agg #[.string s, .int .i64 p, .bool false]] W fun e w' => e = .returned (.tuple #[.int .i64 l, .nilIface]) ∧ Below W.heap.size W w') (HD : ∀ W, Calls Tryz.prog 32 #[.agg #[.string u, .int .i64 o, .bool false], .agg #[.string t, .int .i64 q, .bool false]] W fun e w' => e = .returned (.tuple #[.int .i64 h, .nilIface]) ∧ Below W.heap.size W w') (w : World) :
    Calls Tryz.prog 85 #[.agg #[.string s, .int .i64 p, .bool false, .string t, .int .i64 q, .bool false, .bool c], .agg #[.string u, .int .i64 o, .bool false]] w fun x w' => x = .returned (.bool (inB c l h)) ∧ Below w.heap.size w w' := by
  obtain ⟨R, hR⟩ : ∃ R, R = inB c l h := ⟨_, rfl⟩
  rw [← hR]
  have HR : Hid (R = inB c l h) := hR
  clear hR
  have F0 : Hid (Bk ((w.alloc (.cells #[.string s, .int .i64 p, .bool false, .string t, .int .i64 q, .bool false, .bool c] 59)).alloc (.cells #[.string u, .int .i64 o, .bool false] 24)) (w.heap.size) [.string s, .int .i64 p, .bool false, .string t, .int .i64 q, .bool false, .bool c] ∧ Bk ((w.alloc (.cells #[.string s, .int .i64 p, .bool false, .string t, .int .i64 q, .bool false, .bool c] 59)).alloc (.cells #[.string u, .int .i64 o, .bool false] 24)) (w.heap.size + 1) [.string u, .int .i64 o, .bool false] ∧ Below w.heap.size w ((w.alloc (.cells #[.string s, .int .i64 p, .bool false, .string t, .int .i64 q, .bool false, .bool c] 59)).alloc (.cells #[.string u, .int .i64 o, .bool false] 24))) := ⟨(Bk.new7 w (.string s) (.int .i64 p) (.bool false) (.string t) (.int .i64 q) (.bool false) (.bool c) 59).step ((Below.refl _ _).alloc (Nat.le_refl _) _), ((by have q := Bk.new3 (w.alloc (.cells #[.string s, .int .i64 p, .bool false, .string t, .int .i64 q, .bool false, .bool c] 59)) (.string u) (.int .i64 o) (.bool false) 24; simpa using q) : Bk ((w.alloc (.cells #[.string s, .int .i64 p, .bool false, .string t, .int .i64 q, .bool false, .bool c] 59)).alloc (.cells #[.string u, .int .i64 o, .bool false] 24)) (w.heap.size + 1) [.string u, .int .i64 o, .bool false]), (((Below.refl w.heap.size w)).alloc (Nat.le_refl _) _).alloc ((((Below.refl w.heap.size w)).alloc (Nat.le_refl _) _).size) _⟩
  go_enter Tryz.func85, Tryz.ntmps85
  go_upto_region 1 with fail
  generalize ((w.alloc (.cells #[.string s, .int .i64 p, .bool false, .string t, .int .i64 q, .bool false, .bool c] 59)).alloc (.cells #[.string u, .int .i64 o, .bool false] 24)) = w1 at *
  have lt0_2 := (F0.out.1).lt
  have lt1_2 := (F0.out.2.1).lt
  have le2 := (F0.out.2.2).size
  have F1 : Hid (Bk (w1.alloc (.cells #[.int .i64 1, .int .i64 (-1)] 171)) (w.heap.size) [.string s, .int .i64 p, .bool false, .string t, .int .i64 q, .bool false, .bool c] ∧ Bk (w1.alloc (.cells #[.int .i64 1, .int .i64 (-1)] 171)) (w.heap.size + 1) [.string u, .int .i64 o, .bool false] ∧ Bk (w1.alloc (.cells #[.int .i64 1, .int .i64 (-1)] 171)) (w1.heap.size) [.int .i64 1, .int .i64 (-1)] ∧ Below w.heap.size w (w1.alloc (.cells #[.int .i64 1, .int .i64 (-1)] 171))) := ⟨(F0.out.1).step ((Below.refl _ _).alloc (Nat.le_refl _) _), (F0.out.2.1).step ((Below.refl _ _).alloc (Nat.le_refl _) _), Bk.newL w1 [.int .i64 1, .int .i64 (-1)] 171, (F0.out.2.2).alloc ((F0.out.2.2).size) _⟩
  clear F0
  go_upto_region 2 with fail
  generalize (w1.alloc (.cells #[.int .i64 1, .int .i64 (-1)] 171)) = w2 at *
  have l1_0 := F1.out.1.lt
  have a1_0_0 := F1.out.1.cell 0 _ rfl
  have f1_0_0 := F1.out.1.fz 0
  have a1_0_1 := F1.out.1.cell 1 _ rfl
  have f1_0_1 := F1.out.1.fz 1
  have a1_0_2 := F1.out.1.cell 2 _ rfl
  have f1_0_2 := F1.out.1.fz 2
  have a1_0_3 := F1.out.1.cell 3 _ rfl
  have f1_0_3 := F1.out.1.fz 3
  have a1_0_4 := F1.out.1.cell 4 _ rfl
  have f1_0_4 := F1.out.1.fz 4
  have a1_0_5 := F1.out.1.cell 5 _ rfl
  have f1_0_5 := F1.out.1.fz 5
  have a1_0_6 := F1.out.1.cell 6 _ rfl
  have f1_0_6 := F1.out.1.fz 6
  have l1_1 := F1.out.2.1.lt
  have a1_1_0 := F1.out.2.1.cell 0 _ rfl
  have f1_1_0 := F1.out.2.1.fz 0
  have a1_1_1 := F1.out.2.1.cell 1 _ rfl
  have f1_1_1 := F1.out.2.1.fz 1
  have a1_1_2 := F1.out.2.1.cell 2 _ rfl
  have f1_1_2 := F1.out.2.1.fz 2
  have l1_2 := F1.out.2.2.1.lt
  have a1_2_0 := F1.out.2.2.1.cell 0 _ rfl
  have f1_2_0 := F1.out.2.2.1.fz 0
  have a1_2_1 := F1.out.2.2.1.cell 1 _ rfl
  have f1_2_1 := F1.out.2.2.1.fz 1
  have ne1_0_1 : ¬ w.heap.size = w.heap.size + 1 := by omega
  have ne1_0_2 : ¬ w.heap.size = w1.heap.size := by omega
  have ne1_1_0 : ¬ w.heap.size + 1 = w.heap.size := by omega
  have ne1_1_2 : ¬ w.heap.size + 1 = w1.heap.size := by omega
  have ne1_2_0 : ¬ w1.heap.size = w.heap.size := by omega
  have ne1_2_1 : ¬ w1.heap.size = w.heap.size + 1 := by omega
  go_wp2
  have IB : Hid (Bk w2 (w.heap.size) [.string s, .int .i64 p, .bool false, .string t, .int .i64 q, .bool false, .bool c] ∧ Bk w2 (w.heap.size + 1) [.string u, .int .i64 o, .bool false] ∧ Bk w2 (w1.heap.size) [.int .i64 1, .int .i64 (-1)] ∧ Below w.heap.size w w2) := F1.out
  clear l1_0 a1_0_0 f1_0_0 a1_0_1 f1_0_1 a1_0_2 f1_0_2 a1_0_3 f1_0_3 a1_0_4 f1_0_4 a1_0_5 f1_0_5 a1_0_6 f1_0_6 l1_1 a1_1_0 f1_1_0 a1_1_1 f1_1_1 a1_1_2 f1_1_2 l1_2 a1_2_0 f1_2_0 a1_2_1 f1_2_1
  go_loopw [13] (fun iv wr => ∃ k : Nat, iv = .int .i64 (k : Int) ∧ k ≤ 2 ∧ Hid (Bk wr (w.heap.size) [.string s, .int .i64 p, .bool false, .string t, .int .i64 q, .bool false, .bool c] ∧ Bk wr (w.heap.size + 1) [.string u, .int .i64 o, .bool false] ∧ Bk wr (w1.heap.size) [.int .i64 1, .int .i64 (-1)] ∧ Below w.heap.size w wr) ∧ Hid ((1 ≤ k → (l = 1 ∨ (l = 0 ∧ c = true))) ∧ (2 ≤ k → (h = -1 ∨ (h = 0 ∧ c = true))))) (fun iv _ => 2 - (intOf iv).toNat)
  case atStart => exact ⟨0, rfl, by omega, IB.out, fun a => absurd a (by omega), fun a => absurd a (by omega)⟩
  case round =>
    obtain ⟨k, rfl, hk, HB, HS⟩ := hrel
    clear IB F1
    rcases (by omega : k = 0 ∨ k = 1 ∨ k = 2) with rfl | rfl | rfl
    · have F49 := HB
      clear HB
      have ix := idx_ends0 s p t q
      have lt0_3 := (F49.out.1).lt
      have lt1_3 := (F49.out.2.1).lt
      have lt2_3 := (F49.out.2.2.1).lt
      have le3 := (F49.out.2.2.2).size
      have F50 : Hid (Bk (wr.alloc (.cells #[.string s, .int .i64 p, .bool false] 24)) (w.heap.size) [.string s, .int .i64 p, .bool false, .string t, .int .i64 q, .bool false, .bool c] ∧ Bk (wr.alloc (.cells #[.string s, .int .i64 p, .bool false] 24)) (w.heap.size + 1) [.string u, .int .i64 o, .bool false] ∧ Bk (wr.alloc (.cells #[.string s, .int .i64 p, .bool false] 24)) (w1.heap.size) [.int .i64 1, .int .i64 (-1)] ∧ Bk (wr.alloc (.cells #[.string s, .int .i64 p, .bool false] 24)) (wr.heap.size) [.string s, .int .i64 p, .bool false] ∧ Below w.heap.size w (wr.alloc (.cells #[.string s, .int .i64 p, .bool false] 24))) := ⟨(F49.out.1).step ((Below.refl _ _).alloc (Nat.le_refl _) _), (F49.out.2.1).step ((Below.refl _ _).alloc (Nat.le_refl _) _), (F49.out.2.2.1).step ((Below.refl _ _).alloc (Nat.le_refl _) _), Bk.new3 wr (.string s) (.int .i64 p) (.bool false) 24, (F49.out.2.2.2).alloc ((F49.out.2.2.2).size) _⟩
      clear F49
      go_upto_region 5 with fail
      generalize (wr.alloc (.cells #[.string s, .int .i64 p, .bool false] 24)) = w21 at *
      have l1_0 := F50.out.1.lt
      have a1_0_0 := F50.out.1.cell 0 _ rfl
      have f1_0_0 := F50.out.1.fz 0
      have a1_0_1 := F50.out.1.cell 1 _ rfl
      have f1_0_1 := F50.out.1.fz 1
      have a1_0_2 := F50.out.1.cell 2 _ rfl
      have f1_0_2 := F50.out.1.fz 2
      have a1_0_3 := F50.out.1.cell 3 _ rfl
      have f1_0_3 := F50.out.1.fz 3
      have a1_0_4 := F50.out.1.cell 4 _ rfl
      have f1_0_4 := F50.out.1.fz 4
      have a1_0_5 := F50.out.1.cell 5 _ rfl
      have f1_0_5 := F50.out.1.fz 5
      have a1_0_6 := F50.out.1.cell 6 _ rfl
      have f1_0_6 := F50.out.1.fz 6
      have l1_1 := F50.out.2.1.lt
      have a1_1_0 := F50.out.2.1.cell 0 _ rfl
      have f1_1_0 := F50.out.2.1.fz 0
      have a1_1_1 := F50.out.2.1.cell 1 _ rfl
      have f1_1_1 := F50.out.2.1.fz 1
      have a1_1_2 := F50.out.2.1.cell 2 _ rfl
      have f1_1_2 := F50.out.2.1.fz 2
      have l1_2 := F50.out.2.2.1.lt
      have a1_2_0 := F50.out.2.2.1.cell 0 _ rfl
      have f1_2_0 := F50.out.2.2.1.fz 0
      have a1_2_1 := F50.out.2.2.1.cell 1 _ rfl
      have f1_2_1 := F50.out.2.2.1.fz 1
      have l1_3 := F50.out.2.2.2.1.lt
      have a1_3_0 := F50.out.2.2.2.1.cell 0 _ rfl
      have f1_3_0 := F50.out.2.2.2.1.fz 0
      have a1_3_1 := F50.out.2.2.2.1.cell 1 _ rfl
      have f1_3_1 := F50.out.2.2.2.1.fz 1
      have a1_3_2 := F50.out.2.2.2.1.cell 2 _ rfl
      have f1_3_2 := F50.out.2.2.2.1.fz 2
      have ne1_0_1 : ¬ w.heap.size = w.heap.size + 1 := by omega
      have ne1_0_2 : ¬ w.heap.size = w1.heap.size := by omega
      have ne1_0_3 : ¬ w.heap.size = wr.heap.size := by omega
      have ne1_1_0 : ¬ w.heap.size + 1 = w.heap.size := by omega
      have ne1_1_2 : ¬ w.heap.size + 1 = w1.heap.size := by omega
      have ne1_1_3 : ¬ w.heap.size + 1 = wr.heap.size := by omega
      have ne1_2_0 : ¬ w1.heap.size = w.heap.size := by omega
      have ne1_2_1 : ¬ w1.heap.size = w.heap.size + 1 := by omega
      have ne1_2_3 : ¬ w1.heap.size = wr.heap.size := by omega
      have ne1_3_0 : ¬ wr.heap.size = w.heap.size := by omega
      have ne1_3_1 : ¬ wr.heap.size = w.heap.size + 1 := by omega
      have ne1_3_2 : ¬ wr.heap.size = w1.heap.size := by omega
      go_wp2_with fail
      all_goals first | (exfalso; omega) | skip
      refine (HC _).mono ?_
      rintro o22 w22 ⟨rfl, bb⟩
      have F51 : Hid (Bk w22 (w.heap.size) [.string s, .int .i64 p, .bool false, .string t, .int .i64 q, .bool false, .bool c] ∧ Bk w22 (w.heap.size + 1) [.string u, .int .i64 o, .bool false] ∧ Bk w22 (w1.heap.size) [.int .i64 1, .int .i64 (-1)] ∧ Bk w22 (wr.heap.size) [.string s, .int .i64 p, .bool false] ∧ Below w.heap.size w w22) := ⟨(F50.out.1).step bb, (F50.out.2.1).step bb, (F50.out.2.2.1).step bb, (F50.out.2.2.2.1).step bb, (F50.out.2.2.2.2).trans (bb.mono (F50.out.2.2.2.2).size)⟩
      clear F50
      clear bb
      clear l1_0 a1_0_0 f1_0_0 a1_0_1 f1_0_1 a1_0_2 f1_0_2 a1_0_3 f1_0_3 a1_0_4 f1_0_4 a1_0_5 f1_0_5 a1_0_6 f1_0_6 l1_1 a1_1_0 f1_1_0 a1_1_1 f1_1_1 a1_1_2 f1_1_2 l1_2 a1_2_0 f1_2_0 a1_2_1 f1_2_1 l1_3 a1_3_0 f1_3_0 a1_3_1 f1_3_1 a1_3_2 f1_3_2
      have l2_0 := F51.out.1.lt
      have a2_0_0 := F51.out.1.cell 0 _ rfl
      have f2_0_0 := F51.out.1.fz 0
      have a2_0_1 := F51.out.1.cell 1 _ rfl
      have f2_0_1 := F51.out.1.fz 1
      have a2_0_2 := F51.out.1.cell 2 _ rfl
      have f2_0_2 := F51.out.1.fz 2
      have a2_0_3 := F51.out.1.cell 3 _ rfl
      have f2_0_3 := F51.out.1.fz 3
      have a2_0_4 := F51.out.1.cell 4 _ rfl
      have f2_0_4 := F51.out.1.fz 4
      have a2_0_5 := F51.out.1.cell 5 _ rfl
      have f2_0_5 := F51.out.1.fz 5
      have a2_0_6 := F51.out.1.cell 6 _ rfl
      have f2_0_6 := F51.out.1.fz 6
      have l2_1 := F51.out.2.1.lt
      have a2_1_0 := F51.out.2.1.cell 0 _ rfl
      have f2_1_0 := F51.out.2.1.fz 0
      have a2_1_1 := F51.out.2.1.cell 1 _ rfl
      have f2_1_1 := F51.out.2.1.fz 1
      have a2_1_2 := F51.out.2.1.cell 2 _ rfl
      have f2_1_2 := F51.out.2.1.fz 2
      have l2_2 := F51.out.2.2.1.lt
      have a2_2_0 := F51.out.2.2.1.cell 0 _ rfl
      have f2_2_0 := F51.out.2.2.1.fz 0
      have a2_2_1 := F51.out.2.2.1.cell 1 _ rfl
      have f2_2_1 := F51.out.2.2.1.fz 1
      have l2_3 := F51.out.2.2.2.1.lt
      have a2_3_0 := F51.out.2.2.2.1.cell 0 _ rfl
      have f2_3_0 := F51.out.2.2.2.1.fz 0
      have a2_3_1 := F51.out.2.2.2.1.cell 1 _ rfl
      have f2_3_1 := F51.out.2.2.2.1.fz 1
      have a2_3_2 := F51.out.2.2.2.1.cell 2 _ rfl
      have f2_3_2 := F51.out.2.2.2.1.fz 2
      have ne2_0_1 : ¬ w.heap.size = w.heap.size + 1 := by omega
      have ne2_0_2 : ¬ w.heap.size = w1.heap.size := by omega
      have ne2_0_3 : ¬ w.heap.size = wr.heap.size := by omega
      have ne2_1_0 : ¬ w.heap.size + 1 = w.heap.size := by omega
      have ne2_1_2 : ¬ w.heap.size + 1 = w1.heap.size := by omega
      have ne2_1_3 : ¬ w.heap.size + 1 = wr.heap.size := by omega
      have ne2_2_0 : ¬ w1.heap.size = w.heap.size := by omega
      have ne2_2_1 : ¬ w1.heap.size = w.heap.size + 1 := by omega
      have ne2_2_3 : ¬ w1.heap.size = wr.heap.size := by omega
      have ne2_3_0 : ¬ wr.heap.size = w.heap.size := by omega
      have ne2_3_1 : ¬ wr.heap.size = w.heap.size + 1 := by omega
      have ne2_3_2 : ¬ wr.heap.size = w1.heap.size := by omega
      by_cases c1 : l = 1
      · subst l
        go_wp2
        go_roundw
        case rel => exact ⟨1, by first | rfl | go_num, by omega, ⟨F51.out.1, F51.out.2.1, F51.out.2.2.1, F51.out.2.2.2.2⟩, fun _ => by simp, fun a => absurd a (by omega)⟩
        case measure => simp [intOf]
      · by_cases c2 : l = 0
        · subst l
          cases c with
          | true =>
            go_wp2
            go_roundw
            case rel => exact ⟨1, by first | rfl | go_num, by omega, ⟨F51.out.1, F51.out.2.1, F51.out.2.2.1, F51.out.2.2.2.2⟩, fun _ => by simp, fun a => absurd a (by omega)⟩
            case measure => simp [intOf]
          | false =>
            have e : R = false := by
              rw [HR.out]
              have := HS.out.1
              rcases hh with rfl | rfl | rfl <;> simp [inB] <;> omega
            go_wp2
            go_ret
            exact ⟨by rw [e]; rfl, F51.out.2.2.2.2⟩
        · have e3 : l = -1 := by omega
          subst l
          have e : R = false := by
            rw [HR.out]
            have := HS.out.1
            cases c <;> rcases hh with rfl | rfl | rfl <;> simp [inB] <;> omega
          go_wp2
          go_ret
          exact ⟨by rw [e]; rfl, F51.out.2.2.2.2⟩
    · have F59 := HB
      clear HB
      have ix := idx_ends1 s p t q
      have lt0_3 := (F59.out.1).lt
      have lt1_3 := (F59.out.2.1).lt
      have lt2_3 := (F59.out.2.2.1).lt
      have le3 := (F59.out.2.2.2).size
      have F60 : Hid (Bk (wr.alloc (.cells #[.string t, .int .i64 q, .bool false] 24)) (w.heap.size) [.string s, .int .i64 p, .bool false, .string t, .int .i64 q, .bool false, .bool c] ∧ Bk (wr.alloc (.cells #[.string t, .int .i64 q, .bool false] 24)) (w.heap.size + 1) [.string u, .int .i64 o, .bool false] ∧ Bk (wr.alloc (.cells #[.string t, .int .i64 q, .bool false] 24)) (w1.heap.size) [.int .i64 1, .int .i64 (-1)] ∧ Bk (wr.alloc (.cells #[.string t, .int .i64 q, .bool false] 24)) (wr.heap.size) [.string t, .int .i64 q, .bool false] ∧ Below w.heap.size w (wr.alloc (.cells #[.string t, .int .i64 q, .bool false] 24))) := ⟨(F59.out.1).step ((Below.refl _ _).alloc (Nat.le_refl _) _), (F59.out.2.1).step ((Below.refl _ _).alloc (Nat.le_refl _) _), (F59.out.2.2.1).step ((Below.refl _ _).alloc (Nat.le_refl _) _), Bk.new3 wr (.string t) (.int .i64 q) (.bool false) 24, (F59.out.2.2.2).alloc ((F59.out.2.2.2).size) _⟩
      clear F59
      go_upto_region 5 with fail
      generalize (wr.alloc (.cells #[.string t, .int .i64 q, .bool false] 24)) = w31 at *
      have l1_0 := F60.out.1.lt
      have a1_0_0 := F60.out.1.cell 0 _ rfl
      have f1_0_0 := F60.out.1.fz 0
      have a1_0_1 := F60.out.1.cell 1 _ rfl
      have f1_0_1 := F60.out.1.fz 1
      have a1_0_2 := F60.out.1.cell 2 _ rfl
      have f1_0_2 := F60.out.1.fz 2
      have a1_0_3 := F60.out.1.cell 3 _ rfl
      have f1_0_3 := F60.out.1.fz 3
      have a1_0_4 := F60.out.1.cell 4 _ rfl
      have f1_0_4 := F60.out.1.fz 4
      have a1_0_5 := F60.out.1.cell 5 _ rfl
      have f1_0_5 := F60.out.1.fz 5
      have a1_0_6 := F60.out.1.cell 6 _ rfl
      have f1_0_6 := F60.out.1.fz 6
      have l1_1 := F60.out.2.1.lt
      have a1_1_0 := F60.out.2.1.cell 0 _ rfl
      have f1_1_0 := F60.out.2.1.fz 0
      have a1_1_1 := F60.out.2.1.cell 1 _ rfl
      have f1_1_1 := F60.out.2.1.fz 1
      have a1_1_2 := F60.out.2.1.cell 2 _ rfl
      have f1_1_2 := F60.out.2.1.fz 2
      have l1_2 := F60.out.2.2.1.lt
      have a1_2_0 := F60.out.2.2.1.cell 0 _ rfl
      have f1_2_0 := F60.out.2.2.1.fz 0
      have a1_2_1 := F60.out.2.2.1.cell 1 _ rfl
      have f1_2_1 := F60.out.2.2.1.fz 1
      have l1_3 := F60.out.2.2.2.1.lt
      have a1_3_0 := F60.out.2.2.2.1.cell 0 _ rfl
      have f1_3_0 := F60.out.2.2.2.1.fz 0
      have a1_3_1 := F60.out.2.2.2.1.cell 1 _ rfl
      have f1_3_1 := F60.out.2.2.2.1.fz 1
      have a1_3_2 := F60.out.2.2.2.1.cell 2 _ rfl
      have f1_3_2 := F60.out.2.2.2.1.fz 2
      have ne1_0_1 : ¬ w.heap.size = w.heap.size + 1 := by omega
      have ne1_0_2 : ¬ w.heap.size = w1.heap.size := by omega
      have ne1_0_3 : ¬ w.heap.size = wr.heap.size := by omega
      have ne1_1_0 : ¬ w.heap.size + 1 = w.heap.size := by omega
      have ne1_1_2 : ¬ w.heap.size + 1 = w1.heap.size := by omega
      have ne1_1_3 : ¬ w.heap.size + 1 = wr.heap.size := by omega
      have ne1_2_0 : ¬ w1.heap.size = w.heap.size := by omega
      have ne1_2_1 : ¬ w1.heap.size = w.heap.size + 1 := by omega
      have ne1_2_3 : ¬ w1.heap.size = wr.heap.size := by omega
      have ne1_3_0 : ¬ wr.heap.size = w.heap.size := by omega
      have ne1_3_1 : ¬ wr.heap.size = w.heap.size + 1 := by omega
      have ne1_3_2 : ¬ wr.heap.size = w1.heap.size := by omega
      go_wp2_with fail
      all_goals first | (exfalso; omega) | skip
      refine (HD _).mono ?_
      rintro o32 w32 ⟨rfl, bb⟩
      have F61 : Hid (Bk w32 (w.heap.size) [.string s, .int .i64 p, .bool false, .string t, .int .i64 q, .bool false, .bool c] ∧ Bk w32 (w.heap.size + 1) [.string u, .int .i64 o, .bool false] ∧ Bk w32 (w1.heap.size) [.int .i64 1, .int .i64 (-1)] ∧ Bk w32 (wr.heap.size) [.string t, .int .i64 q, .bool false] ∧ Below w.heap.size w w32) := ⟨(F60.out.1).step bb, (F60.out.2.1).step bb, (F60.out.2.2.1).step bb, (F60.out.2.2.2.1).step bb, (F60.out.2.2.2.2).trans (bb.mono (F60.out.2.2.2.2).size)⟩
      clear F60
      clear bb
      clear l1_0 a1_0_0 f1_0_0 a1_0_1 f1_0_1 a1_0_2 f1_0_2 a1_0_3 f1_0_3 a1_0_4 f1_0_4 a1_0_5 f1_0_5 a1_0_6 f1_0_6 l1_1 a1_1_0 f1_1_0 a1_1_1 f1_1_1 a1_1_2 f1_1_2 l1_2 a1_2_0 f1_2_0 a1_2_1 f1_2_1 l1_3 a1_3_0 f1_3_0 a1_3_1 f1_3_1 a1_3_2 f1_3_2
      have l2_0 := F61.out.1.lt
      have a2_0_0 := F61.out.1.cell 0 _ rfl
      have f2_0_0 := F61.out.1.fz 0
      have a2_0_1 := F61.out.1.cell 1 _ rfl
      have f2_0_1 := F61.out.1.fz 1
      have a2_0_2 := F61.out.1.cell 2 _ rfl
      have f2_0_2 := F61.out.1.fz 2
      have a2_0_3 := F61.out.1.cell 3 _ rfl
      have f2_0_3 := F61.out.1.fz 3
      have a2_0_4 := F61.out.1.cell 4 _ rfl
      have f2_0_4 := F61.out.1.fz 4
      have a2_0_5 := F61.out.1.cell 5 _ rfl
      have f2_0_5 := F61.out.1.fz 5
      have a2_0_6 := F61.out.1.cell 6 _ rfl
      have f2_0_6 := F61.out.1.fz 6
      have l2_1 := F61.out.2.1.lt
      have a2_1_0 := F61.out.2.1.cell 0 _ rfl
      have f2_1_0 := F61.out.2.1.fz 0
      have a2_1_1 := F61.out.2.1.cell 1 _ rfl
      have f2_1_1 := F61.out.2.1.fz 1
      have a2_1_2 := F61.out.2.1.cell 2 _ rfl
      have f2_1_2 := F61.out.2.1.fz 2
      have l2_2 := F61.out.2.2.1.lt
      have a2_2_0 := F61.out.2.2.1.cell 0 _ rfl
      have f2_2_0 := F61.out.2.2.1.fz 0
      have a2_2_1 := F61.out.2.2.1.cell 1 _ rfl
      have f2_2_1 := F61.out.2.2.1.fz 1
      have l2_3 := F61.out.2.2.2.1.lt
      have a2_3_0 := F61.out.2.2.2.1.cell 0 _ rfl
      have f2_3_0 := F61.out.2.2.2.1.fz 0
      have a2_3_1 := F61.out.2.2.2.1.cell 1 _ rfl
      have f2_3_1 := F61.out.2.2.2.1.fz 1
      have a2_3_2 := F61.out.2.2.2.1.cell 2 _ rfl
      have f2_3_2 := F61.out.2.2.2.1.fz 2
      have ne2_0_1 : ¬ w.heap.size = w.heap.size + 1 := by omega
      have ne2_0_2 : ¬ w.heap.size = w1.heap.size := by omega
      have ne2_0_3 : ¬ w.heap.size = wr.heap.size := by omega
      have ne2_1_0 : ¬ w.heap.size + 1 = w.heap.size := by omega
      have ne2_1_2 : ¬ w.heap.size + 1 = w1.heap.size := by omega
      have ne2_1_3 : ¬ w.heap.size + 1 = wr.heap.size := by omega
      have ne2_2_0 : ¬ w1.heap.size = w.heap.size := by omega
      have ne2_2_1 : ¬ w1.heap.size = w.heap.size + 1 := by omega
      have ne2_2_3 : ¬ w1.heap.size = wr.heap.size := by omega
      have ne2_3_0 : ¬ wr.heap.size = w.heap.size := by omega
      have ne2_3_1 : ¬ wr.heap.size = w.heap.size + 1 := by omega
      have ne2_3_2 : ¬ wr.heap.size = w1.heap.size := by omega
      by_cases c1 : h = (-1)
      · subst h
        go_wp2
        go_roundw
        case rel => exact ⟨2, by first | rfl | go_num, by omega, ⟨F61.out.1, F61.out.2.1, F61.out.2.2.1, F61.out.2.2.2.2⟩, fun _ => (by have := HS.out.1 (Nat.le_refl 1); simp_all), fun _ => by simp⟩
        case measure => simp [intOf]
      · by_cases c2 : h = 0
        · subst h
          cases c with
          | true =>
            go_wp2
            go_roundw
            case rel => exact ⟨2, by first | rfl | go_num, by omega, ⟨F61.out.1, F61.out.2.1, F61.out.2.2.1, F61.out.2.2.2.2⟩, fun _ => (by have := HS.out.1 (Nat.le_refl 1); simp_all), fun _ => by simp⟩
            case measure => simp [intOf]
          | false =>
            have e : R = false := by
              rw [HR.out]
              have := HS.out.1
              rcases hl with rfl | rfl | rfl <;> simp [inB] <;> omega
            go_wp2
            go_ret
            exact ⟨by rw [e]; rfl, F61.out.2.2.2.2⟩
        · have e3 : h = 1 := by omega
          subst h
          have e : R = false := by
            rw [HR.out]
            have := HS.out.1
            cases c <;> rcases hl with rfl | rfl | rfl <;> simp [inB] <;> omega
          go_wp2
          go_ret
          exact ⟨by rw [e]; rfl, F61.out.2.2.2.2⟩
    · have e : R = true := by
        rw [HR.out]
        have a1 := HS.out.1 (by omega)
        have a2 := HS.out.2 (by omega)
        rcases a1 with rfl | ⟨rfl, rfl⟩ <;> rcases a2 with rfl | ⟨rfl, a3⟩ <;> (try subst a3) <;> (try cases c) <;> rfl
      go_wp2
      go_ret
      exact ⟨by rw [e]; rfl, HB.out.2.2.2⟩
abbrev Dp := ByteArray × Int
structure DRow (W : World) (a : Nat) (l : List Dp) : Prop where
 lt : a < W.heap.size
 cell : ∀ i d, l[i]? = some d → W.cell? ⟨a, i * 3, none⟩ = some (.string d.1) ∧ W.cell? ⟨a, i * 3 + 1, none⟩ = some (.int .i64 d.2) ∧ W.cell? ⟨a, i * 3 + 2, none⟩ = some (.bool false)
theorem DRow.step {W W' : World} {a : Nat} {l : List Dp} (h : DRow W a l) (hb : Below W.heap.size W W') : DRow W' a l :=
 ⟨Nat.lt_of_lt_of_le h.lt hb.size, fun i d q => by
  obtain ⟨x, y, z⟩ := h.cell i d q
  exact ⟨(hb.cell (p := ⟨a, i * 3, none⟩) h.lt).trans x, (hb.cell (p := ⟨a, i * 3 + 1, none⟩) h.lt).trans y, (hb.cell (p := ⟨a, i * 3 + 2, none⟩) h.lt).trans z⟩⟩
theorem DRow.new1 (W : World) (d : Dp) (T : TypeId) : DRow (W.alloc (.cells #[.string d.1, .int .i64 d.2, .bool false] T)) W.heap.size [d] :=
 ⟨by simp, fun i e q => by
  match i, q with
  | 0, q => cases q; simp
  | n + 1, q => simp at q⟩
theorem DRow.new2 (W : World) (d d' : Dp) (T : TypeId) : DRow (W.alloc (.cells #[.string d.1, .int .i64 d.2, .bool false, .string d'.1, .int .i64 d'.2, .bool false] T)) W.heap.size [d, d'] :=
 ⟨by simp, fun i e q => by
  match i, q with
  | 0, q => cases q; simp
  | 1, q => cases q; simp
  | n + 2, q => simp at q⟩
def seekF (hb : Dp → Bool) (cand : Nat → List Dp) : Nat → Nat → Option Dp
  | _, 0 => none
  | n, k + 1 => match (cand n).find? hb with
    | some d => some d
    | none => seekF hb cand (n + 1) k
def ansV : Option Dp → Value
 | none => .tuple #[dcV ⟨#[]⟩ 0 false, .bool false]
 | some d => .tuple #[dcV d.1 d.2 false, .bool true]
def hdB (c : Bool) (s : ByteArray) (p : Int) (t : ByteArray) (q : Int) (d : Dp) : Bool := inB c (lowF d.1 d.2 s p) (lowF d.1 d.2 t q)
theorem shold_is {s t u : ByteArray} {p q o : Int} {c : Bool} (hs : VD s p false) (ht : VD t q false) (hu : VD u o false) (w : World) :
 Calls Tryz.prog 85 #[.agg #[.string s, .int .i64 p, .bool false, .string t, .int .i64 q, .bool false, .bool c], .agg #[.string u, .int .i64 o, .bool false]] w fun e w' => e = .returned (.bool (hdB c s p t q (u, o))) ∧ Below w.heap.size w w' :=
 shold_any (lowF_in _ _ _ _) (lowF_in _ _ _ _) (fun W => cmp_ff hu hs W) (fun W => cmp_ff hu ht W) w
theorem find_drop {hb : Dp → Bool} {l : List Dp} {j : Nat} {d : Dp} (h : l[j]? = some d) : (l.drop j).find? hb = if hb d then some d else (l.drop (j + 1)).find? hb := by
 obtain ⟨hj, e⟩ := List.getElem?_eq_some_iff.1 h
 rw [List.drop_eq_getElem_cons hj, e, List.find?_cons]
 cases hb d <;> rfl
theorem seek_near {capv : Value} {J : World → Prop} (hJ : ∀ W W', J W → Below W.heap.size W W' → J W') {s t : ByteArray} {p q : Int} {c : Bool} (hs : VD s p false) (ht : VD t q false) {few many len : Nat} (fm : few ≤ many) (hm : many ≤ 800) (hl : len ≤ 2) {cand : Nat → List Dp} (hc : ∀ n, (cand n).length = len) (hv : ∀ n, few ≤ n → n ≤ many → ∀ d ∈ cand n, VD d.1 d.2 false)
    (HT : ∀ n, few ≤ n → n ≤ many → ∀ W, J W → Calls Tryz.prog 53 #[.int .i64 (n : Int), capv] W fun e w' => ∃ a : Nat, e = .returned (.slice (some ⟨a, 0, none⟩) len len) ∧ DRow w' a (cand n) ∧ Below W.heap.size W w') (w : World) (j0 : J w) :
    Calls Tryz.prog 52 #[.agg #[.string s, .int .i64 p, .bool false, .string t, .int .i64 q, .bool false, .bool c], .int .i64 (few : Int), .int .i64 (many : Int), .func (.func 53) #[] #[capv]] w fun x w' => x = .returned (ansV (seekF (hdB c s p t q) cand few (many + 1 - few))) ∧ Below w.heap.size w w' := by
  obtain ⟨R, hR⟩ : ∃ R, R = seekF (hdB c s p t q) cand few (many + 1 - few) := ⟨_, rfl⟩
  rw [← hR]
  have HR : Hid (seekF (hdB c s p t q) cand few (many + 1 - few) = R) := hR.symm
  have HJ : Hid ((∀ W W', J W → Below W.heap.size W W' → J W') ∧ J w) := ⟨hJ, j0⟩
  have HV : Hid (∀ n, few ≤ n → n ≤ many → ∀ d ∈ cand n, VD d.1 d.2 false) := hv
  have HL : Hid (∀ n, (cand n).length = len) := hc
  have HVD : Hid (VD s p false ∧ VD t q false) := ⟨hs, ht⟩
  have HTT : Hid (∀ n, few ≤ n → n ≤ many → ∀ W, J W → Calls Tryz.prog 53 #[.int .i64 (n : Int), capv] W fun e w' => ∃ a : Nat, e = .returned (.slice (some ⟨a, 0, none⟩) len len) ∧ DRow w' a (cand n) ∧ Below W.heap.size W w') := HT
  clear hR hJ j0 hv hc hs ht HT
  have F0 : Hid (Bk (((w.alloc (.cells #[.string s, .int .i64 p, .bool false, .string t, .int .i64 q, .bool false, .bool c] 59)).alloc (.cells #[.string ⟨#[]⟩, .int .i64 0, .bool false] 24)).alloc (.cells #[.string ⟨#[]⟩, .int .i64 0, .bool false] 24)) (w.heap.size) [.string s, .int .i64 p, .bool false, .string t, .int .i64 q, .bool false, .bool c] ∧ Bk (((w.alloc (.cells #[.string s, .int .i64 p, .bool false, .string t, .int .i64 q, .bool false, .bool c] 59)).alloc (.cells #[.string ⟨#[]⟩, .int .i64 0, .bool false] 24)).alloc (.cells #[.string ⟨#[]⟩, .int .i64 0, .bool false] 24)) (w.heap.size + 1) [.string ⟨#[]⟩, .int .i64 0, .bool false] ∧ Bk (((w.alloc (.cells #[.string s, .int .i64 p, .bool false, .string t, .int .i64 q, .bool false, .bool c] 59)).alloc (.cells #[.string ⟨#[]⟩, .int .i64 0, .bool false] 24)).alloc (.cells #[.string ⟨#[]⟩, .int .i64 0, .bool false] 24)) (w.heap.size + 1 + 1) [.string ⟨#[]⟩, .int .i64 0, .bool false] ∧ Below w.heap.size w (((w.alloc (.cells #[.string s, .int .i64 p, .bool false, .string t, .int .i64 q, .bool false, .bool c] 59)).alloc (.cells #[.string ⟨#[]⟩, .int .i64 0, .bool false] 24)).alloc (.cells #[.string ⟨#[]⟩, .int .i64 0, .bool false] 24))) := ⟨((Bk.new7 w (.string s) (.int .i64 p) (.bool false) (.string t) (.int .i64 q) (.bool false) (.bool c) 59).step ((Below.refl _ _).alloc (Nat.le_refl _) _)).step ((Below.refl _ _).alloc (Nat.le_refl _) _), (((by have q := Bk.new3 (w.alloc (.cells #[.string s, .int .i64 p, .bool false, .string t, .int .i64 q, .bool false, .bool c] 59)) (.string ⟨#[]⟩) (.int .i64 0) (.bool false) 24; simpa using q) : Bk ((w.alloc (.cells #[.string s, .int .i64 p, .bool false, .string t, .int .i64 q, .bool false, .bool c] 59)).alloc (.cells #[.string ⟨#[]⟩, .int .i64 0, .bool false] 24)) (w.heap.size + 1) [.string ⟨#[]⟩, .int .i64 0, .bool false])).step ((Below.refl _ _).alloc (Nat.le_refl _) _), ((by have q := Bk.new3 ((w.alloc (.cells #[.string s, .int .i64 p, .bool false, .string t, .int .i64 q, .bool false, .bool c] 59)).alloc (.cells #[.string ⟨#[]⟩, .int .i64 0, .bool false] 24)) (.string ⟨#[]⟩) (.int .i64 0) (.bool false) 24; simpa using q) : Bk (((w.alloc (.cells #[.string s, .int .i64 p, .bool false, .string t, .int .i64 q, .bool false, .bool c] 59)).alloc (.cells #[.string ⟨#[]⟩, .int .i64 0, .bool false] 24)).alloc (.cells #[.string ⟨#[]⟩, .int .i64 0, .bool false] 24)) (w.heap.size + 1 + 1) [.string ⟨#[]⟩, .int .i64 0, .bool false]), ((((Below.refl w.heap.size w)).alloc (Nat.le_refl _) _).alloc ((((Below.refl w.heap.size w)).alloc (Nat.le_refl _) _).size) _).alloc (((((Below.refl w.heap.size w)).alloc (Nat.le_refl _) _).alloc ((((Below.refl w.heap.size w)).alloc (Nat.le_refl _) _).size) _).size) _⟩
  go_enter Tryz.func52, Tryz.ntmps52
  have IB : Hid (Bk (((w.alloc (.cells #[.string s, .int .i64 p, .bool false, .string t, .int .i64 q, .bool false, .bool c] 59)).alloc (.cells #[.string ⟨#[]⟩, .int .i64 0, .bool false] 24)).alloc (.cells #[.string ⟨#[]⟩, .int .i64 0, .bool false] 24)) (w.heap.size) [.string s, .int .i64 p, .bool false, .string t, .int .i64 q, .bool false, .bool c] ∧ Bk (((w.alloc (.cells #[.string s, .int .i64 p, .bool false, .string t, .int .i64 q, .bool false, .bool c] 59)).alloc (.cells #[.string ⟨#[]⟩, .int .i64 0, .bool false] 24)).alloc (.cells #[.string ⟨#[]⟩, .int .i64 0, .bool false] 24)) (w.heap.size + 1) [.string ⟨#[]⟩, .int .i64 0, .bool false] ∧ Bk (((w.alloc (.cells #[.string s, .int .i64 p, .bool false, .string t, .int .i64 q, .bool false, .bool c] 59)).alloc (.cells #[.string ⟨#[]⟩, .int .i64 0, .bool false] 24)).alloc (.cells #[.string ⟨#[]⟩, .int .i64 0, .bool false] 24)) (w.heap.size + 1 + 1) [.string ⟨#[]⟩, .int .i64 0, .bool false] ∧ Below w.heap.size w (((w.alloc (.cells #[.string s, .int .i64 p, .bool false, .string t, .int .i64 q, .bool false, .bool c] 59)).alloc (.cells #[.string ⟨#[]⟩, .int .i64 0, .bool false] 24)).alloc (.cells #[.string ⟨#[]⟩, .int .i64 0, .bool false] 24))) := F0.out
  clear F0
  go_wp2
  go_step3
  go_wp2
  go_step3
  go_wp2
  go_loopg [11, 12, 14] (many + 1 - few) (fun g okv iv _ wr => ∃ n : Nat, okv = .bool false ∧ iv = .int .i64 (n : Int) ∧ few ≤ n ∧ n + g = many + 1 ∧ Hid (Bk wr (w.heap.size) [.string s, .int .i64 p, .bool false, .string t, .int .i64 q, .bool false, .bool c] ∧ Bk wr (w.heap.size + 1) [.string ⟨#[]⟩, .int .i64 0, .bool false] ∧ Bk wr (w.heap.size + 1 + 1) [.string ⟨#[]⟩, .int .i64 0, .bool false] ∧ Below w.heap.size w wr) ∧ Hid (seekF (hdB c s p t q) cand n g = R))
  case atStart => exact ⟨few, rfl, rfl, Nat.le_refl _, by omega, IB.out, HR.out⟩
  case round =>
    obtain ⟨n, rfl, rfl, hn, hng, HB, HS⟩ := hrel
    clear IB HR
    cases gk with
    | zero =>
      have F50 := HB
      clear HB
      have n1 : ¬ (n : Int) ≤ (many : Int) := by omega
      have e : R = none := HS.out.symm
      subst e
      have l1_0 := F50.out.1.lt
      have a1_0_0 := F50.out.1.cell 0 _ rfl
      have f1_0_0 := F50.out.1.fz 0
      have a1_0_1 := F50.out.1.cell 1 _ rfl
      have f1_0_1 := F50.out.1.fz 1
      have a1_0_2 := F50.out.1.cell 2 _ rfl
      have f1_0_2 := F50.out.1.fz 2
      have a1_0_3 := F50.out.1.cell 3 _ rfl
      have f1_0_3 := F50.out.1.fz 3
      have a1_0_4 := F50.out.1.cell 4 _ rfl
      have f1_0_4 := F50.out.1.fz 4
      have a1_0_5 := F50.out.1.cell 5 _ rfl
      have f1_0_5 := F50.out.1.fz 5
      have a1_0_6 := F50.out.1.cell 6 _ rfl
      have f1_0_6 := F50.out.1.fz 6
      have l1_1 := F50.out.2.1.lt
      have a1_1_0 := F50.out.2.1.cell 0 _ rfl
      have f1_1_0 := F50.out.2.1.fz 0
      have a1_1_1 := F50.out.2.1.cell 1 _ rfl
      have f1_1_1 := F50.out.2.1.fz 1
      have a1_1_2 := F50.out.2.1.cell 2 _ rfl
      have f1_1_2 := F50.out.2.1.fz 2
      have l1_2 := F50.out.2.2.1.lt
      have a1_2_0 := F50.out.2.2.1.cell 0 _ rfl
      have f1_2_0 := F50.out.2.2.1.fz 0
      have a1_2_1 := F50.out.2.2.1.cell 1 _ rfl
      have f1_2_1 := F50.out.2.2.1.fz 1
      have a1_2_2 := F50.out.2.2.1.cell 2 _ rfl
      have f1_2_2 := F50.out.2.2.1.fz 2
      have ne1_0_1 : ¬ w.heap.size = w.heap.size + 1 := by omega
      have ne1_0_2 : ¬ w.heap.size = w.heap.size + 1 + 1 := by omega
      have ne1_1_0 : ¬ w.heap.size + 1 = w.heap.size := by omega
      have ne1_1_2 : ¬ w.heap.size + 1 = w.heap.size + 1 + 1 := by omega
      have ne1_2_0 : ¬ w.heap.size + 1 + 1 = w.heap.size := by omega
      have ne1_2_1 : ¬ w.heap.size + 1 + 1 = w.heap.size + 1 := by omega
      go_wp2
      try rw [Exit.noGoto_ret]
      refine bodyPost_ret (v := .tuple #[.agg #[.string ⟨#[]⟩, .int .i64 0, .bool false], .bool false]) (by simp [results, Tryz.results52, go_sem, World.cell?_setCell_same, World.cell?_setCell_other, *]) rfl ⟨rfl, ?_⟩
      repeat (first | refine Below.setCell ?_ (by first | exact Nat.le_refl _ | (dsimp only; omega)) _ | refine Below.alloc ?_ (by first | exact Nat.le_refl _ | omega | (simp; omega)) _ | refine Below.drew ?_)
      exact F50.out.2.2.2
    | succ g =>
      have F50 := HB
      clear HB
      have n1 : (n : Int) ≤ (many : Int) := by omega
      have HTn := HTT.out n hn (by omega) _ (HJ.out.1 _ _ HJ.out.2 F50.out.2.2.2)
      go_wp2_with fail
      all_goals first | (exfalso; omega) | skip
      refine (HTn).mono ?_
      rintro o21 w21 ⟨a, rfl, dr, bb⟩
      have F51 : Hid (Bk w21 (w.heap.size) [.string s, .int .i64 p, .bool false, .string t, .int .i64 q, .bool false, .bool c] ∧ Bk w21 (w.heap.size + 1) [.string ⟨#[]⟩, .int .i64 0, .bool false] ∧ Bk w21 (w.heap.size + 1 + 1) [.string ⟨#[]⟩, .int .i64 0, .bool false] ∧ Below w.heap.size w w21) := ⟨(F50.out.1).step bb, (F50.out.2.1).step bb, (F50.out.2.2.1).step bb, (F50.out.2.2.2).trans (bb.mono (F50.out.2.2.2).size)⟩
      clear F50
      clear bb
      have DR : Hid (DRow w21 a (cand n)) := dr
      clear dr HTn
      have IB2 : Hid (Bk w21 (w.heap.size) [.string s, .int .i64 p, .bool false, .string t, .int .i64 q, .bool false, .bool c] ∧ Bk w21 (w.heap.size + 1) [.string ⟨#[]⟩, .int .i64 0, .bool false] ∧ Bk w21 (w.heap.size + 1 + 1) [.string ⟨#[]⟩, .int .i64 0, .bool false] ∧ DRow w21 a (cand n) ∧ Below w.heap.size w w21) := ⟨F51.out.1, F51.out.2.1, F51.out.2.2.1, DR.out, F51.out.2.2.2⟩
      clear F51 DR
      go_wp2
      go_loopg [11, 14, 25] len (fun g2 okv _ jv wy => ∃ j : Nat, okv = .bool false ∧ jv = .int .i64 (j : Int) ∧ j + g2 = len ∧ Hid (Bk wy (w.heap.size) [.string s, .int .i64 p, .bool false, .string t, .int .i64 q, .bool false, .bool c] ∧ Bk wy (w.heap.size + 1) [.string ⟨#[]⟩, .int .i64 0, .bool false] ∧ Bk wy (w.heap.size + 1 + 1) [.string ⟨#[]⟩, .int .i64 0, .bool false] ∧ DRow wy a (cand n) ∧ Below w.heap.size w wy) ∧ Hid (((cand n).drop j).find? (hdB c s p t q) = (cand n).find? (hdB c s p t q)))
      case atStart => exact ⟨0, rfl, rfl, by omega, IB2.out, rfl⟩
      case round =>
        obtain ⟨j, rfl, rfl, hj, HB, HF⟩ := hrel
        clear IB2
        cases gk with
        | zero =>
          have j1 : ¬ (j : Int) < (len : Int) := by omega
          have e : (cand n).find? (hdB c s p t q) = none := by
            rw [← HF.out, List.drop_eq_nil_of_le (by have := HL.out n; omega)]
            rfl
          have HS2 : Hid (seekF (hdB c s p t q) cand (n + 1) g = R) := by
            have := HS.out
            unfold seekF at this
            rw [e] at this
            exact this
          clear HS e
          go_wp2
          go_roundg g
          case measure => omega
          case rel => exact ⟨n + 1, rfl, by go_num, by omega, by omega, ⟨HB.out.1, HB.out.2.1, HB.out.2.2.1, HB.out.2.2.2.2⟩, HS2.out⟩
        | succ g2 =>
            have j1 : (j : Int) < (len : Int) := by omega
            have ij : ((j : Int)).toNat = j := by omega
            obtain ⟨d, hd⟩ : ∃ d, (cand n)[j]? = some d := ⟨_, List.getElem?_eq_getElem (by have := HL.out n; omega)⟩
            obtain ⟨d1, d2⟩ := d
            have HH := fun W => shold_is (c := c) HVD.out.1 HVD.out.2 (HV.out n hn (by omega) _ (List.mem_of_getElem? hd)) W
            have HFD : Hid (((cand n).drop j).find? (hdB c s p t q) = if hdB c s p t q (d1, d2) then some (d1, d2) else ((cand n).drop (j + 1)).find? (hdB c s p t q)) := find_drop (hb := hdB c s p t q) hd
            have F80 := HB
            have hdl := HB.out.2.2.2.1.lt
            obtain ⟨ca, cb, cc⟩ := HB.out.2.2.2.1.cell j _ hd
            dsimp only at ca cb cc HH
            clear HB hd
            have lt0_4 := (F80.out.1).lt
            have lt1_4 := (F80.out.2.1).lt
            have lt2_4 := (F80.out.2.2.1).lt
            have lt3_4 := (F80.out.2.2.2.1).lt
            have le4 := (F80.out.2.2.2.2).size
            have F81 : Hid (Bk (wr.alloc (.cells #[.string d1, .int .i64 d2, .bool false] 24)) (w.heap.size) [.string s, .int .i64 p, .bool false, .string t, .int .i64 q, .bool false, .bool c] ∧ Bk (wr.alloc (.cells #[.string d1, .int .i64 d2, .bool false] 24)) (w.heap.size + 1) [.string ⟨#[]⟩, .int .i64 0, .bool false] ∧ Bk (wr.alloc (.cells #[.string d1, .int .i64 d2, .bool false] 24)) (w.heap.size + 1 + 1) [.string ⟨#[]⟩, .int .i64 0, .bool false] ∧ DRow (wr.alloc (.cells #[.string d1, .int .i64 d2, .bool false] 24)) a (cand n) ∧ Bk (wr.alloc (.cells #[.string d1, .int .i64 d2, .bool false] 24)) (wr.heap.size) [.string d1, .int .i64 d2, .bool false] ∧ Below w.heap.size w (wr.alloc (.cells #[.string d1, .int .i64 d2, .bool false] 24))) := ⟨(F80.out.1).step ((Below.refl _ _).alloc (Nat.le_refl _) _), (F80.out.2.1).step ((Below.refl _ _).alloc (Nat.le_refl _) _), (F80.out.2.2.1).step ((Below.refl _ _).alloc (Nat.le_refl _) _), (F80.out.2.2.2.1).step ((Below.refl _ _).alloc (Nat.le_refl _) _), Bk.new3 wr (.string d1) (.int .i64 d2) (.bool false) 24, (F80.out.2.2.2.2).alloc ((F80.out.2.2.2.2).size) _⟩
            clear F80
            go_upto_region 9 with fail
            generalize (wr.alloc (.cells #[.string d1, .int .i64 d2, .bool false] 24)) = w41 at *
            clear ca cb cc
            have l1_0 := F81.out.1.lt
            have a1_0_0 := F81.out.1.cell 0 _ rfl
            have f1_0_0 := F81.out.1.fz 0
            have a1_0_1 := F81.out.1.cell 1 _ rfl
            have f1_0_1 := F81.out.1.fz 1
            have a1_0_2 := F81.out.1.cell 2 _ rfl
            have f1_0_2 := F81.out.1.fz 2
            have a1_0_3 := F81.out.1.cell 3 _ rfl
            have f1_0_3 := F81.out.1.fz 3
            have a1_0_4 := F81.out.1.cell 4 _ rfl
            have f1_0_4 := F81.out.1.fz 4
            have a1_0_5 := F81.out.1.cell 5 _ rfl
            have f1_0_5 := F81.out.1.fz 5
            have a1_0_6 := F81.out.1.cell 6 _ rfl
            have f1_0_6 := F81.out.1.fz 6
            have l1_1 := F81.out.2.1.lt
            have a1_1_0 := F81.out.2.1.cell 0 _ rfl
            have f1_1_0 := F81.out.2.1.fz 0
            have a1_1_1 := F81.out.2.1.cell 1 _ rfl
            have f1_1_1 := F81.out.2.1.fz 1
            have a1_1_2 := F81.out.2.1.cell 2 _ rfl
            have f1_1_2 := F81.out.2.1.fz 2
            have l1_2 := F81.out.2.2.1.lt
            have a1_2_0 := F81.out.2.2.1.cell 0 _ rfl
            have f1_2_0 := F81.out.2.2.1.fz 0
            have a1_2_1 := F81.out.2.2.1.cell 1 _ rfl
            have f1_2_1 := F81.out.2.2.1.fz 1
            have a1_2_2 := F81.out.2.2.1.cell 2 _ rfl
            have f1_2_2 := F81.out.2.2.1.fz 2
            have l1_4 := F81.out.2.2.2.2.1.lt
            have a1_4_0 := F81.out.2.2.2.2.1.cell 0 _ rfl
            have f1_4_0 := F81.out.2.2.2.2.1.fz 0
            have a1_4_1 := F81.out.2.2.2.2.1.cell 1 _ rfl
            have f1_4_1 := F81.out.2.2.2.2.1.fz 1
            have a1_4_2 := F81.out.2.2.2.2.1.cell 2 _ rfl
            have f1_4_2 := F81.out.2.2.2.2.1.fz 2
            have ne1_0_1 : ¬ w.heap.size = w.heap.size + 1 := by omega
            have ne1_0_2 : ¬ w.heap.size = w.heap.size + 1 + 1 := by omega
            have ne1_0_4 : ¬ w.heap.size = wr.heap.size := by omega
            have ne1_1_0 : ¬ w.heap.size + 1 = w.heap.size := by omega
            have ne1_1_2 : ¬ w.heap.size + 1 = w.heap.size + 1 + 1 := by omega
            have ne1_1_4 : ¬ w.heap.size + 1 = wr.heap.size := by omega
            have ne1_2_0 : ¬ w.heap.size + 1 + 1 = w.heap.size := by omega
            have ne1_2_1 : ¬ w.heap.size + 1 + 1 = w.heap.size + 1 := by omega
            have ne1_2_4 : ¬ w.heap.size + 1 + 1 = wr.heap.size := by omega
            have ne1_4_0 : ¬ wr.heap.size = w.heap.size := by omega
            have ne1_4_1 : ¬ wr.heap.size = w.heap.size + 1 := by omega
            have ne1_4_2 : ¬ wr.heap.size = w.heap.size + 1 + 1 := by omega
            go_wp2_with fail
            all_goals first | (exfalso; omega) | skip
            refine (HH _).mono ?_
            rintro o42 w42 ⟨rfl, bb⟩
            have F82 : Hid (Bk w42 (w.heap.size) [.string s, .int .i64 p, .bool false, .string t, .int .i64 q, .bool false, .bool c] ∧ Bk w42 (w.heap.size + 1) [.string ⟨#[]⟩, .int .i64 0, .bool false] ∧ Bk w42 (w.heap.size + 1 + 1) [.string ⟨#[]⟩, .int .i64 0, .bool false] ∧ DRow w42 a (cand n) ∧ Bk w42 (wr.heap.size) [.string d1, .int .i64 d2, .bool false] ∧ Below w.heap.size w w42) := ⟨(F81.out.1).step bb, (F81.out.2.1).step bb, (F81.out.2.2.1).step bb, (F81.out.2.2.2.1).step bb, (F81.out.2.2.2.2.1).step bb, (F81.out.2.2.2.2.2).trans (bb.mono (F81.out.2.2.2.2.2).size)⟩
            clear F81
            clear bb
            clear l1_0 a1_0_0 f1_0_0 a1_0_1 f1_0_1 a1_0_2 f1_0_2 a1_0_3 f1_0_3 a1_0_4 f1_0_4 a1_0_5 f1_0_5 a1_0_6 f1_0_6 l1_1 a1_1_0 f1_1_0 a1_1_1 f1_1_1 a1_1_2 f1_1_2 l1_2 a1_2_0 f1_2_0 a1_2_1 f1_2_1 a1_2_2 f1_2_2 l1_4 a1_4_0 f1_4_0 a1_4_1 f1_4_1 a1_4_2 f1_4_2
            generalize hdB c s p t q (d1, d2) = r at *
            cases r with
            | true =>
                have e : (cand n).find? (hdB c s p t q) = some (d1, d2) := by
                  rw [← HF.out, HFD.out]
                  rfl
                have e2 : R = some (d1, d2) := by
                  have := HS.out
                  unfold seekF at this
                  rw [e] at this
                  exact this.symm
                subst e2
                clear e HS
                have l2_0 := F82.out.1.lt
                have a2_0_0 := F82.out.1.cell 0 _ rfl
                have f2_0_0 := F82.out.1.fz 0
                have a2_0_1 := F82.out.1.cell 1 _ rfl
                have f2_0_1 := F82.out.1.fz 1
                have a2_0_2 := F82.out.1.cell 2 _ rfl
                have f2_0_2 := F82.out.1.fz 2
                have a2_0_3 := F82.out.1.cell 3 _ rfl
                have f2_0_3 := F82.out.1.fz 3
                have a2_0_4 := F82.out.1.cell 4 _ rfl
                have f2_0_4 := F82.out.1.fz 4
                have a2_0_5 := F82.out.1.cell 5 _ rfl
                have f2_0_5 := F82.out.1.fz 5
                have a2_0_6 := F82.out.1.cell 6 _ rfl
                have f2_0_6 := F82.out.1.fz 6
                have l2_1 := F82.out.2.1.lt
                have a2_1_0 := F82.out.2.1.cell 0 _ rfl
                have f2_1_0 := F82.out.2.1.fz 0
                have a2_1_1 := F82.out.2.1.cell 1 _ rfl
                have f2_1_1 := F82.out.2.1.fz 1
                have a2_1_2 := F82.out.2.1.cell 2 _ rfl
                have f2_1_2 := F82.out.2.1.fz 2
                have l2_2 := F82.out.2.2.1.lt
                have a2_2_0 := F82.out.2.2.1.cell 0 _ rfl
                have f2_2_0 := F82.out.2.2.1.fz 0
                have a2_2_1 := F82.out.2.2.1.cell 1 _ rfl
                have f2_2_1 := F82.out.2.2.1.fz 1
                have a2_2_2 := F82.out.2.2.1.cell 2 _ rfl
                have f2_2_2 := F82.out.2.2.1.fz 2
                have l2_4 := F82.out.2.2.2.2.1.lt
                have a2_4_0 := F82.out.2.2.2.2.1.cell 0 _ rfl
                have f2_4_0 := F82.out.2.2.2.2.1.fz 0
                have a2_4_1 := F82.out.2.2.2.2.1.cell 1 _ rfl
                have f2_4_1 := F82.out.2.2.2.2.1.fz 1
                have a2_4_2 := F82.out.2.2.2.2.1.cell 2 _ rfl
                have f2_4_2 := F82.out.2.2.2.2.1.fz 2
                have ne2_0_1 : ¬ w.heap.size = w.heap.size + 1 := by omega
                have ne2_0_2 : ¬ w.heap.size = w.heap.size + 1 + 1 := by omega
                have ne2_0_4 : ¬ w.heap.size = wr.heap.size := by omega
                have ne2_1_0 : ¬ w.heap.size + 1 = w.heap.size := by omega
                have ne2_1_2 : ¬ w.heap.size + 1 = w.heap.size + 1 + 1 := by omega
                have ne2_1_4 : ¬ w.heap.size + 1 = wr.heap.size := by omega
                have ne2_2_0 : ¬ w.heap.size + 1 + 1 = w.heap.size := by omega
                have ne2_2_1 : ¬ w.heap.size + 1 + 1 = w.heap.size + 1 := by omega
                have ne2_2_4 : ¬ w.heap.size + 1 + 1 = wr.heap.size := by omega
                have ne2_4_0 : ¬ wr.heap.size = w.heap.size := by omega
                have ne2_4_1 : ¬ wr.heap.size = w.heap.size + 1 := by omega
                have ne2_4_2 : ¬ wr.heap.size = w.heap.size + 1 + 1 := by omega
                go_wp2
                try rw [Exit.noGoto_ret]
                refine bodyPost_ret (v := .tuple #[.agg #[.string d1, .int .i64 d2, .bool false], .bool true]) (by simp [results, Tryz.results52, go_sem, World.cell?_setCell_same, World.cell?_setCell_other, *]) rfl ⟨rfl, ?_⟩
                repeat (first | refine Below.setCell ?_ (by first | exact Nat.le_refl _ | (dsimp only; omega)) _ | refine Below.alloc ?_ (by first | exact Nat.le_refl _ | omega | (simp; omega)) _ | refine Below.drew ?_)
                exact F82.out.2.2.2.2.2
            | false =>
                have HF2 : Hid (((cand n).drop (j + 1)).find? (hdB c s p t q) = (cand n).find? (hdB c s p t q)) := by
                  show _ = _
                  rw [← HF.out, HFD.out]
                  rfl
                clear HF HFD
                go_wp2
                go_roundg g2
                case measure => omega
                case rel => exact ⟨j + 1, rfl, by go_num, by omega, ⟨F82.out.1, F82.out.2.1, F82.out.2.2.1, F82.out.2.2.2.1, F82.out.2.2.2.2.2⟩, HF2.out⟩
theorem near1_ok {a : Nat} {u r1 g1 : ByteArray} {o r2 g2 n : Int} (HR : ∀ W, Calls Tryz.prog 54 #[.agg #[.string u, .int .i64 o, .bool false], .int .i64 n] W fun e w' => e = .returned (.tuple #[.agg #[.string r1, .int .i64 r2, .bool false], .nilIface]) ∧ Below W.heap.size W w') (HU : ∀ W, Calls Tryz.prog 55 #[.agg #[.string u, .int .i64 o, .bool false], .int .i64 n] W fun e w' => e = .returned (.tuple #[.agg #[.string g1, .int .i64 g2, .bool false], .nilIface]) ∧ Below W.heap.size W w') (w : World) (hw : Bk w a [.string u, .int .i64 o, .bool false]) :
 Calls Tryz.prog 53 #[.int .i64 n, .pointer (some ⟨a, 0, none⟩)] w fun e w' => ∃ a' : Nat, e = .returned (.slice (some ⟨a', 0, none⟩) 2 2) ∧ DRow w' a' [(r1, r2), (g1, g2)] ∧ Below w.heap.size w w' := by
 have F0 : Hid (Bk w a [.string u, .int .i64 o, .bool false] ∧ Below w.heap.size w w) := ⟨hw, Below.refl _ _⟩
 clear hw
 go_enter Tryz.func53, Tryz.ntmps53
 have l1_0 := F0.out.1.lt
 have a1_0_0 := F0.out.1.cell 0 _ rfl
 have f1_0_0 := F0.out.1.fz 0
 have a1_0_1 := F0.out.1.cell 1 _ rfl
 have f1_0_1 := F0.out.1.fz 1
 have a1_0_2 := F0.out.1.cell 2 _ rfl
 have f1_0_2 := F0.out.1.fz 2
 go_wp2_with fail
 all_goals first | (exfalso; omega) | skip
 refine (HR _).mono ?_
 rintro o1 w1 ⟨rfl, bb⟩
 have F1 : Hid (Bk w1 (a) [.string u, .int .i64 o, .bool false] ∧ Below w.heap.size w w1) := ⟨(F0.out.1).step bb, (F0.out.2).trans (bb.mono (F0.out.2).size)⟩
 clear F0
 clear bb
 clear l1_0 a1_0_0 f1_0_0 a1_0_1 f1_0_1 a1_0_2 f1_0_2
 have lt0_1 := (F1.out.1).lt
 have le1 := (F1.out.2).size
 have F2 : Hid (Bk (w1.alloc (.cells #[.string r1, .int .i64 r2, .bool false] 24)) (a) [.string u, .int .i64 o, .bool false] ∧ Bk (w1.alloc (.cells #[.string r1, .int .i64 r2, .bool false] 24)) (w1.heap.size) [.string r1, .int .i64 r2, .bool false] ∧ Below w.heap.size w (w1.alloc (.cells #[.string r1, .int .i64 r2, .bool false] 24))) := ⟨(F1.out.1).step ((Below.refl _ _).alloc (Nat.le_refl _) _), Bk.new3 w1 (.string r1) (.int .i64 r2) (.bool false) 24, (F1.out.2).alloc ((F1.out.2).size) _⟩
 clear F1
 go_upto_region 2 with fail
 generalize (w1.alloc (.cells #[.string r1, .int .i64 r2, .bool false] 24)) = w2 at *
 have l2_0 := F2.out.1.lt
 have a2_0_0 := F2.out.1.cell 0 _ rfl
 have f2_0_0 := F2.out.1.fz 0
 have a2_0_1 := F2.out.1.cell 1 _ rfl
 have f2_0_1 := F2.out.1.fz 1
 have a2_0_2 := F2.out.1.cell 2 _ rfl
 have f2_0_2 := F2.out.1.fz 2
 have l2_1 := F2.out.2.1.lt
 have a2_1_0 := F2.out.2.1.cell 0 _ rfl
 have f2_1_0 := F2.out.2.1.fz 0
 have a2_1_1 := F2.out.2.1.cell 1 _ rfl
 have f2_1_1 := F2.out.2.1.fz 1
 have a2_1_2 := F2.out.2.1.cell 2 _ rfl
 have f2_1_2 := F2.out.2.1.fz 2
 have ne2_0_1 : ¬ a = w1.heap.size := by omega
 have ne2_1_0 : ¬ w1.heap.size = a := by omega
 go_wp2_with fail
 all_goals first | (exfalso; omega) | skip
 refine (HU _).mono ?_
 rintro o3 w3 ⟨rfl, bb⟩
 have F3 : Hid (Bk w3 (a) [.string u, .int .i64 o, .bool false] ∧ Bk w3 (w1.heap.size) [.string r1, .int .i64 r2, .bool false] ∧ Below w.heap.size w w3) := ⟨(F2.out.1).step bb, (F2.out.2.1).step bb, (F2.out.2.2).trans (bb.mono (F2.out.2.2).size)⟩
 clear F2
 clear bb
 clear l2_0 a2_0_0 f2_0_0 a2_0_1 f2_0_1 a2_0_2 f2_0_2 l2_1 a2_1_0 f2_1_0 a2_1_1 f2_1_1 a2_1_2 f2_1_2
 have lt0_2 := (F3.out.1).lt
 have lt1_2 := (F3.out.2.1).lt
 have le2 := (F3.out.2.2).size
 have F4 : Hid (Bk (w3.alloc (.cells #[.string g1, .int .i64 g2, .bool false] 24)) (a) [.string u, .int .i64 o, .bool false] ∧ Bk (w3.alloc (.cells #[.string g1, .int .i64 g2, .bool false] 24)) (w1.heap.size) [.string r1, .int .i64 r2, .bool false] ∧ Bk (w3.alloc (.cells #[.string g1, .int .i64 g2, .bool false] 24)) (w3.heap.size) [.string g1, .int .i64 g2, .bool false] ∧ Below w.heap.size w (w3.alloc (.cells #[.string g1, .int .i64 g2, .bool false] 24))) := ⟨(F3.out.1).step ((Below.refl _ _).alloc (Nat.le_refl _) _), (F3.out.2.1).step ((Below.refl _ _).alloc (Nat.le_refl _) _), Bk.new3 w3 (.string g1) (.int .i64 g2) (.bool false) 24, (F3.out.2.2).alloc ((F3.out.2.2).size) _⟩
 clear F3
 go_upto_region 3 with fail
 generalize (w3.alloc (.cells #[.string g1, .int .i64 g2, .bool false] 24)) = w4 at *
 have l3_0 := F4.out.1.lt
 have a3_0_0 := F4.out.1.cell 0 _ rfl
 have f3_0_0 := F4.out.1.fz 0
 have a3_0_1 := F4.out.1.cell 1 _ rfl
 have f3_0_1 := F4.out.1.fz 1
 have a3_0_2 := F4.out.1.cell 2 _ rfl
 have f3_0_2 := F4.out.1.fz 2
 have l3_1 := F4.out.2.1.lt
 have a3_1_0 := F4.out.2.1.cell 0 _ rfl
 have f3_1_0 := F4.out.2.1.fz 0
 have a3_1_1 := F4.out.2.1.cell 1 _ rfl
 have f3_1_1 := F4.out.2.1.fz 1
 have a3_1_2 := F4.out.2.1.cell 2 _ rfl
 have f3_1_2 := F4.out.2.1.fz 2
 have l3_2 := F4.out.2.2.1.lt
 have a3_2_0 := F4.out.2.2.1.cell 0 _ rfl
 have f3_2_0 := F4.out.2.2.1.fz 0
 have a3_2_1 := F4.out.2.2.1.cell 1 _ rfl
 have f3_2_1 := F4.out.2.2.1.fz 1
 have a3_2_2 := F4.out.2.2.1.cell 2 _ rfl
 have f3_2_2 := F4.out.2.2.1.fz 2
 have ne3_0_1 : ¬ a = w1.heap.size := by omega
 have ne3_0_2 : ¬ a = w3.heap.size := by omega
 have ne3_1_0 : ¬ w1.heap.size = a := by omega
 have ne3_1_2 : ¬ w1.heap.size = w3.heap.size := by omega
 have ne3_2_0 : ¬ w3.heap.size = a := by omega
 have ne3_2_1 : ¬ w3.heap.size = w1.heap.size := by omega
 go_wp2
 go_ret
 refine ⟨w4.heap.size, rfl, DRow.new2 w4 (r1, r2) (g1, g2) 24, (F4.out.2.2.2).alloc (F4.out.2.2.2).size _⟩
theorem snear_ok {s t u : ByteArray} {p q o : Int} {c : Bool} (hs : VD s p false) (ht : VD t q false) {few many : Nat} (fm : few ≤ many) (hm : many ≤ 800) {r g : Nat → Dp} (hr : ∀ n, few ≤ n → n ≤ many → VD (r n).1 (r n).2 false ∧ VD (g n).1 (g n).2 false)
 (HR : ∀ n : Nat, few ≤ n → n ≤ many → ∀ W, Calls Tryz.prog 54 #[.agg #[.string u, .int .i64 o, .bool false], .int .i64 (n : Int)] W fun e w' => e = .returned (.tuple #[.agg #[.string (r n).1, .int .i64 (r n).2, .bool false], .nilIface]) ∧ Below W.heap.size W w') (HU : ∀ n : Nat, few ≤ n → n ≤ many → ∀ W, Calls Tryz.prog 55 #[.agg #[.string u, .int .i64 o, .bool false], .int .i64 (n : Int)] W fun e w' => e = .returned (.tuple #[.agg #[.string (g n).1, .int .i64 (g n).2, .bool false], .nilIface]) ∧ Below W.heap.size W w') (w : World) :
 Calls Tryz.prog 29 #[.agg #[.string s, .int .i64 p, .bool false, .string t, .int .i64 q, .bool false, .bool c], .agg #[.string u, .int .i64 o, .bool false], .int .i64 (few : Int), .int .i64 (many : Int)] w fun x w' => x = .returned (ansV (seekF (hdB c s p t q) (fun n => [r n, g n]) few (many + 1 - few))) ∧ Below w.heap.size w w' := by
 have SKS := fun (a : Nat) (w1 : World) (j : Bk w1 a [.string u, .int .i64 o, .bool false]) => seek_near (J := fun W => Bk W a [.string u, .int .i64 o, .bool false]) (capv := .pointer (some ⟨a, 0, none⟩)) (c := c) (fun _ _ h b => h.step b) hs ht fm hm (Nat.le_refl 2) (cand := fun n => [r n, g n]) (fun _ => rfl) (fun n h1 h2 d hd => by
  rcases List.mem_cons.1 hd with rfl | hd
  · exact (hr n h1 h2).1
  · rw [List.mem_singleton.1 hd]; exact (hr n h1 h2).2) (fun n h1 h2 W jj => near1_ok (HR n h1 h2) (HU n h1 h2) W jj) w1 j
 clear HR HU hr hs ht fm hm
 generalize seekF (hdB c s p t q) (fun n => [r n, g n]) few (many + 1 - few) = R at *
 rcases R with _ | ⟨d1, d2⟩ <;> unfold ansV dcV at SKS
 · have F0 : Hid (Bk (((w.alloc (.cells #[.string s, .int .i64 p, .bool false, .string t, .int .i64 q, .bool false, .bool c] 59)).alloc (.cells #[.string u, .int .i64 o, .bool false] 24)).alloc (.cells #[.string ⟨#[]⟩, .int .i64 0, .bool false] 24)) (w.heap.size) [.string s, .int .i64 p, .bool false, .string t, .int .i64 q, .bool false, .bool c] ∧ Bk (((w.alloc (.cells #[.string s, .int .i64 p, .bool false, .string t, .int .i64 q, .bool false, .bool c] 59)).alloc (.cells #[.string u, .int .i64 o, .bool false] 24)).alloc (.cells #[.string ⟨#[]⟩, .int .i64 0, .bool false] 24)) (w.heap.size + 1) [.string u, .int .i64 o, .bool false] ∧ Bk (((w.alloc (.cells #[.string s, .int .i64 p, .bool false, .string t, .int .i64 q, .bool false, .bool c] 59)).alloc (.cells #[.string u, .int .i64 o, .bool false] 24)).alloc (.cells #[.string ⟨#[]⟩, .int .i64 0, .bool false] 24)) (w.heap.size + 1 + 1) [.string ⟨#[]⟩, .int .i64 0, .bool false] ∧ Below w.heap.size w (((w.alloc (.cells #[.string s, .int .i64 p, .bool false, .string t, .int .i64 q, .bool false, .bool c] 59)).alloc (.cells #[.string u, .int .i64 o, .bool false] 24)).alloc (.cells #[.string ⟨#[]⟩, .int .i64 0, .bool false] 24))) := ⟨((Bk.new7 w (.string s) (.int .i64 p) (.bool false) (.string t) (.int .i64 q) (.bool false) (.bool c) 59).step ((Below.refl _ _).alloc (Nat.le_refl _) _)).step ((Below.refl _ _).alloc (Nat.le_refl _) _), (((by have q := Bk.new3 (w.alloc (.cells #[.string s, .int .i64 p, .bool false, .string t, .int .i64 q, .bool false, .bool c] 59)) (.string u) (.int .i64 o) (.bool false) 24; simpa using q) : Bk ((w.alloc (.cells #[.string s, .int .i64 p, .bool false, .string t, .int .i64 q, .bool false, .bool c] 59)).alloc (.cells #[.string u, .int .i64 o, .bool false] 24)) (w.heap.size + 1) [.string u, .int .i64 o, .bool false])).step ((Below.refl _ _).alloc (Nat.le_refl _) _), ((by have q := Bk.new3 ((w.alloc (.cells #[.string s, .int .i64 p, .bool false, .string t, .int .i64 q, .bool false, .bool c] 59)).alloc (.cells #[.string u, .int .i64 o, .bool false] 24)) (.string ⟨#[]⟩) (.int .i64 0) (.bool false) 24; simpa using q) : Bk (((w.alloc (.cells #[.string s, .int .i64 p, .bool false, .string t, .int .i64 q, .bool false, .bool c] 59)).alloc (.cells #[.string u, .int .i64 o, .bool false] 24)).alloc (.cells #[.string ⟨#[]⟩, .int .i64 0, .bool false] 24)) (w.heap.size + 1 + 1) [.string ⟨#[]⟩, .int .i64 0, .bool false]), ((((Below.refl w.heap.size w)).alloc (Nat.le_refl _) _).alloc ((((Below.refl w.heap.size w)).alloc (Nat.le_refl _) _).size) _).alloc (((((Below.refl w.heap.size w)).alloc (Nat.le_refl _) _).alloc ((((Below.refl w.heap.size w)).alloc (Nat.le_refl _) _).size) _).size) _⟩
   go_enter Tryz.func29, Tryz.ntmps29
   go_upto_region 1 with fail
   generalize (((w.alloc (.cells #[.string s, .int .i64 p, .bool false, .string t, .int .i64 q, .bool false, .bool c] 59)).alloc (.cells #[.string u, .int .i64 o, .bool false] 24)).alloc (.cells #[.string ⟨#[]⟩, .int .i64 0, .bool false] 24)) = w1 at *
   have l1_0 := F0.out.1.lt
   have a1_0_0 := F0.out.1.cell 0 _ rfl
   have f1_0_0 := F0.out.1.fz 0
   have a1_0_1 := F0.out.1.cell 1 _ rfl
   have f1_0_1 := F0.out.1.fz 1
   have a1_0_2 := F0.out.1.cell 2 _ rfl
   have f1_0_2 := F0.out.1.fz 2
   have a1_0_3 := F0.out.1.cell 3 _ rfl
   have f1_0_3 := F0.out.1.fz 3
   have a1_0_4 := F0.out.1.cell 4 _ rfl
   have f1_0_4 := F0.out.1.fz 4
   have a1_0_5 := F0.out.1.cell 5 _ rfl
   have f1_0_5 := F0.out.1.fz 5
   have a1_0_6 := F0.out.1.cell 6 _ rfl
   have f1_0_6 := F0.out.1.fz 6
   have l1_1 := F0.out.2.1.lt
   have a1_1_0 := F0.out.2.1.cell 0 _ rfl
   have f1_1_0 := F0.out.2.1.fz 0
   have a1_1_1 := F0.out.2.1.cell 1 _ rfl
   have f1_1_1 := F0.out.2.1.fz 1
   have a1_1_2 := F0.out.2.1.cell 2 _ rfl
   have f1_1_2 := F0.out.2.1.fz 2
   have l1_2 := F0.out.2.2.1.lt
   have a1_2_0 := F0.out.2.2.1.cell 0 _ rfl
   have f1_2_0 := F0.out.2.2.1.fz 0
   have a1_2_1 := F0.out.2.2.1.cell 1 _ rfl
   have f1_2_1 := F0.out.2.2.1.fz 1
   have a1_2_2 := F0.out.2.2.1.cell 2 _ rfl
   have f1_2_2 := F0.out.2.2.1.fz 2
   have ne1_0_1 : ¬ w.heap.size = w.heap.size + 1 := by omega
   have ne1_0_2 : ¬ w.heap.size = w.heap.size + 1 + 1 := by omega
   have ne1_1_0 : ¬ w.heap.size + 1 = w.heap.size := by omega
   have ne1_1_2 : ¬ w.heap.size + 1 = w.heap.size + 1 + 1 := by omega
   have ne1_2_0 : ¬ w.heap.size + 1 + 1 = w.heap.size := by omega
   have ne1_2_1 : ¬ w.heap.size + 1 + 1 = w.heap.size + 1 := by omega
   have SK1 := SKS _ _ F0.out.2.1
   go_wp2_with fail
   all_goals first | (exfalso; omega) | skip
   refine (SK1).mono ?_
   rintro o2 w2 ⟨rfl, bb⟩
   have F1 : Hid (Bk w2 (w.heap.size) [.string s, .int .i64 p, .bool false, .string t, .int .i64 q, .bool false, .bool c] ∧ Bk w2 (w.heap.size + 1) [.string u, .int .i64 o, .bool false] ∧ Bk w2 (w.heap.size + 1 + 1) [.string ⟨#[]⟩, .int .i64 0, .bool false] ∧ Below w.heap.size w w2) := ⟨(F0.out.1).step bb, (F0.out.2.1).step bb, (F0.out.2.2.1).step bb, (F0.out.2.2.2).trans (bb.mono (F0.out.2.2.2).size)⟩
   clear F0
   clear bb
   clear l1_0 a1_0_0 f1_0_0 a1_0_1 f1_0_1 a1_0_2 f1_0_2 a1_0_3 f1_0_3 a1_0_4 f1_0_4 a1_0_5 f1_0_5 a1_0_6 f1_0_6 l1_1 a1_1_0 f1_1_0 a1_1_1 f1_1_1 a1_1_2 f1_1_2 l1_2 a1_2_0 f1_2_0 a1_2_1 f1_2_1 a1_2_2 f1_2_2
   have l2_0 := F1.out.1.lt
   have a2_0_0 := F1.out.1.cell 0 _ rfl
   have f2_0_0 := F1.out.1.fz 0
   have a2_0_1 := F1.out.1.cell 1 _ rfl
   have f2_0_1 := F1.out.1.fz 1
   have a2_0_2 := F1.out.1.cell 2 _ rfl
   have f2_0_2 := F1.out.1.fz 2
   have a2_0_3 := F1.out.1.cell 3 _ rfl
   have f2_0_3 := F1.out.1.fz 3
   have a2_0_4 := F1.out.1.cell 4 _ rfl
   have f2_0_4 := F1.out.1.fz 4
   have a2_0_5 := F1.out.1.cell 5 _ rfl
   have f2_0_5 := F1.out.1.fz 5
   have a2_0_6 := F1.out.1.cell 6 _ rfl
   have f2_0_6 := F1.out.1.fz 6
   have l2_1 := F1.out.2.1.lt
   have a2_1_0 := F1.out.2.1.cell 0 _ rfl
   have f2_1_0 := F1.out.2.1.fz 0
   have a2_1_1 := F1.out.2.1.cell 1 _ rfl
   have f2_1_1 := F1.out.2.1.fz 1
   have a2_1_2 := F1.out.2.1.cell 2 _ rfl
   have f2_1_2 := F1.out.2.1.fz 2
   have l2_2 := F1.out.2.2.1.lt
   have a2_2_0 := F1.out.2.2.1.cell 0 _ rfl
   have f2_2_0 := F1.out.2.2.1.fz 0
   have a2_2_1 := F1.out.2.2.1.cell 1 _ rfl
   have f2_2_1 := F1.out.2.2.1.fz 1
   have a2_2_2 := F1.out.2.2.1.cell 2 _ rfl
   have f2_2_2 := F1.out.2.2.1.fz 2
   have ne2_0_1 : ¬ w.heap.size = w.heap.size + 1 := by omega
   have ne2_0_2 : ¬ w.heap.size = w.heap.size + 1 + 1 := by omega
   have ne2_1_0 : ¬ w.heap.size + 1 = w.heap.size := by omega
   have ne2_1_2 : ¬ w.heap.size + 1 = w.heap.size + 1 + 1 := by omega
   have ne2_2_0 : ¬ w.heap.size + 1 + 1 = w.heap.size := by omega
   have ne2_2_1 : ¬ w.heap.size + 1 + 1 = w.heap.size + 1 := by omega
   go_wp2
   refine bodyPost_ret (v := .tuple #[.agg #[.string ⟨#[]⟩, .int .i64 0, .bool false], .bool false]) (by simp [results, Tryz.results29, go_sem, World.cell?_setCell_same, World.cell?_setCell_other, *]) rfl ⟨rfl, ?_⟩
   repeat (first | refine Below.setCell ?_ (by first | exact Nat.le_refl _ | (dsimp only; omega)) _ | refine Below.alloc ?_ (by first | exact Nat.le_refl _ | omega | (simp; omega)) _ | refine Below.drew ?_)
   exact F1.out.2.2.2
 · have F0 : Hid (Bk (((w.alloc (.cells #[.string s, .int .i64 p, .bool false, .string t, .int .i64 q, .bool false, .bool c] 59)).alloc (.cells #[.string u, .int .i64 o, .bool false] 24)).alloc (.cells #[.string ⟨#[]⟩, .int .i64 0, .bool false] 24)) (w.heap.size) [.string s, .int .i64 p, .bool false, .string t, .int .i64 q, .bool false, .bool c] ∧ Bk (((w.alloc (.cells #[.string s, .int .i64 p, .bool false, .string t, .int .i64 q, .bool false, .bool c] 59)).alloc (.cells #[.string u, .int .i64 o, .bool false] 24)).alloc (.cells #[.string ⟨#[]⟩, .int .i64 0, .bool false] 24)) (w.heap.size + 1) [.string u, .int .i64 o, .bool false] ∧ Bk (((w.alloc (.cells #[.string s, .int .i64 p, .bool false, .string t, .int .i64 q, .bool false, .bool c] 59)).alloc (.cells #[.string u, .int .i64 o, .bool false] 24)).alloc (.cells #[.string ⟨#[]⟩, .int .i64 0, .bool false] 24)) (w.heap.size + 1 + 1) [.string ⟨#[]⟩, .int .i64 0, .bool false] ∧ Below w.heap.size w (((w.alloc (.cells #[.string s, .int .i64 p, .bool false, .string t, .int .i64 q, .bool false, .bool c] 59)).alloc (.cells #[.string u, .int .i64 o, .bool false] 24)).alloc (.cells #[.string ⟨#[]⟩, .int .i64 0, .bool false] 24))) := ⟨((Bk.new7 w (.string s) (.int .i64 p) (.bool false) (.string t) (.int .i64 q) (.bool false) (.bool c) 59).step ((Below.refl _ _).alloc (Nat.le_refl _) _)).step ((Below.refl _ _).alloc (Nat.le_refl _) _), (((by have q := Bk.new3 (w.alloc (.cells #[.string s, .int .i64 p, .bool false, .string t, .int .i64 q, .bool false, .bool c] 59)) (.string u) (.int .i64 o) (.bool false) 24; simpa using q) : Bk ((w.alloc (.cells #[.string s, .int .i64 p, .bool false, .string t, .int .i64 q, .bool false, .bool c] 59)).alloc (.cells #[.string u, .int .i64 o, .bool false] 24)) (w.heap.size + 1) [.string u, .int .i64 o, .bool false])).step ((Below.refl _ _).alloc (Nat.le_refl _) _), ((by have q := Bk.new3 ((w.alloc (.cells #[.string s, .int .i64 p, .bool false, .string t, .int .i64 q, .bool false, .bool c] 59)).alloc (.cells #[.string u, .int .i64 o, .bool false] 24)) (.string ⟨#[]⟩) (.int .i64 0) (.bool false) 24; simpa using q) : Bk (((w.alloc (.cells #[.string s, .int .i64 p, .bool false, .string t, .int .i64 q, .bool false, .bool c] 59)).alloc (.cells #[.string u, .int .i64 o, .bool false] 24)).alloc (.cells #[.string ⟨#[]⟩, .int .i64 0, .bool false] 24)) (w.heap.size + 1 + 1) [.string ⟨#[]⟩, .int .i64 0, .bool false]), ((((Below.refl w.heap.size w)).alloc (Nat.le_refl _) _).alloc ((((Below.refl w.heap.size w)).alloc (Nat.le_refl _) _).size) _).alloc (((((Below.refl w.heap.size w)).alloc (Nat.le_refl _) _).alloc ((((Below.refl w.heap.size w)).alloc (Nat.le_refl _) _).size) _).size) _⟩
   go_enter Tryz.func29, Tryz.ntmps29
   go_upto_region 1 with fail
   generalize (((w.alloc (.cells #[.string s, .int .i64 p, .bool false, .string t, .int .i64 q, .bool false, .bool c] 59)).alloc (.cells #[.string u, .int .i64 o, .bool false] 24)).alloc (.cells #[.string ⟨#[]⟩, .int .i64 0, .bool false] 24)) = w1 at *
   have l1_0 := F0.out.1.lt
   have a1_0_0 := F0.out.1.cell 0 _ rfl
   have f1_0_0 := F0.out.1.fz 0
   have a1_0_1 := F0.out.1.cell 1 _ rfl
   have f1_0_1 := F0.out.1.fz 1
   have a1_0_2 := F0.out.1.cell 2 _ rfl
   have f1_0_2 := F0.out.1.fz 2
   have a1_0_3 := F0.out.1.cell 3 _ rfl
   have f1_0_3 := F0.out.1.fz 3
   have a1_0_4 := F0.out.1.cell 4 _ rfl
   have f1_0_4 := F0.out.1.fz 4
   have a1_0_5 := F0.out.1.cell 5 _ rfl
   have f1_0_5 := F0.out.1.fz 5
   have a1_0_6 := F0.out.1.cell 6 _ rfl
   have f1_0_6 := F0.out.1.fz 6
   have l1_1 := F0.out.2.1.lt
   have a1_1_0 := F0.out.2.1.cell 0 _ rfl
   have f1_1_0 := F0.out.2.1.fz 0
   have a1_1_1 := F0.out.2.1.cell 1 _ rfl
   have f1_1_1 := F0.out.2.1.fz 1
   have a1_1_2 := F0.out.2.1.cell 2 _ rfl
   have f1_1_2 := F0.out.2.1.fz 2
   have l1_2 := F0.out.2.2.1.lt
   have a1_2_0 := F0.out.2.2.1.cell 0 _ rfl
   have f1_2_0 := F0.out.2.2.1.fz 0
   have a1_2_1 := F0.out.2.2.1.cell 1 _ rfl
   have f1_2_1 := F0.out.2.2.1.fz 1
   have a1_2_2 := F0.out.2.2.1.cell 2 _ rfl
   have f1_2_2 := F0.out.2.2.1.fz 2
   have ne1_0_1 : ¬ w.heap.size = w.heap.size + 1 := by omega
   have ne1_0_2 : ¬ w.heap.size = w.heap.size + 1 + 1 := by omega
   have ne1_1_0 : ¬ w.heap.size + 1 = w.heap.size := by omega
   have ne1_1_2 : ¬ w.heap.size + 1 = w.heap.size + 1 + 1 := by omega
   have ne1_2_0 : ¬ w.heap.size + 1 + 1 = w.heap.size := by omega
   have ne1_2_1 : ¬ w.heap.size + 1 + 1 = w.heap.size + 1 := by omega
   have SK1 := SKS _ _ F0.out.2.1
   go_wp2_with fail
   all_goals first | (exfalso; omega) | skip
   refine (SK1).mono ?_
   rintro o2 w2 ⟨rfl, bb⟩
   have F1 : Hid (Bk w2 (w.heap.size) [.string s, .int .i64 p, .bool false, .string t, .int .i64 q, .bool false, .bool c] ∧ Bk w2 (w.heap.size + 1) [.string u, .int .i64 o, .bool false] ∧ Bk w2 (w.heap.size + 1 + 1) [.string ⟨#[]⟩, .int .i64 0, .bool false] ∧ Below w.heap.size w w2) := ⟨(F0.out.1).step bb, (F0.out.2.1).step bb, (F0.out.2.2.1).step bb, (F0.out.2.2.2).trans (bb.mono (F0.out.2.2.2).size)⟩
   clear F0
   clear bb
   clear l1_0 a1_0_0 f1_0_0 a1_0_1 f1_0_1 a1_0_2 f1_0_2 a1_0_3 f1_0_3 a1_0_4 f1_0_4 a1_0_5 f1_0_5 a1_0_6 f1_0_6 l1_1 a1_1_0 f1_1_0 a1_1_1 f1_1_1 a1_1_2 f1_1_2 l1_2 a1_2_0 f1_2_0 a1_2_1 f1_2_1 a1_2_2 f1_2_2
   have l2_0 := F1.out.1.lt
   have a2_0_0 := F1.out.1.cell 0 _ rfl
   have f2_0_0 := F1.out.1.fz 0
   have a2_0_1 := F1.out.1.cell 1 _ rfl
   have f2_0_1 := F1.out.1.fz 1
   have a2_0_2 := F1.out.1.cell 2 _ rfl
   have f2_0_2 := F1.out.1.fz 2
   have a2_0_3 := F1.out.1.cell 3 _ rfl
   have f2_0_3 := F1.out.1.fz 3
   have a2_0_4 := F1.out.1.cell 4 _ rfl
   have f2_0_4 := F1.out.1.fz 4
   have a2_0_5 := F1.out.1.cell 5 _ rfl
   have f2_0_5 := F1.out.1.fz 5
   have a2_0_6 := F1.out.1.cell 6 _ rfl
   have f2_0_6 := F1.out.1.fz 6
   have l2_1 := F1.out.2.1.lt
   have a2_1_0 := F1.out.2.1.cell 0 _ rfl
   have f2_1_0 := F1.out.2.1.fz 0
   have a2_1_1 := F1.out.2.1.cell 1 _ rfl
   have f2_1_1 := F1.out.2.1.fz 1
   have a2_1_2 := F1.out.2.1.cell 2 _ rfl
   have f2_1_2 := F1.out.2.1.fz 2
   have l2_2 := F1.out.2.2.1.lt
   have a2_2_0 := F1.out.2.2.1.cell 0 _ rfl
   have f2_2_0 := F1.out.2.2.1.fz 0
   have a2_2_1 := F1.out.2.2.1.cell 1 _ rfl
   have f2_2_1 := F1.out.2.2.1.fz 1
   have a2_2_2 := F1.out.2.2.1.cell 2 _ rfl
   have f2_2_2 := F1.out.2.2.1.fz 2
   have ne2_0_1 : ¬ w.heap.size = w.heap.size + 1 := by omega
   have ne2_0_2 : ¬ w.heap.size = w.heap.size + 1 + 1 := by omega
   have ne2_1_0 : ¬ w.heap.size + 1 = w.heap.size := by omega
   have ne2_1_2 : ¬ w.heap.size + 1 = w.heap.size + 1 + 1 := by omega
   have ne2_2_0 : ¬ w.heap.size + 1 + 1 = w.heap.size := by omega
   have ne2_2_1 : ¬ w.heap.size + 1 + 1 = w.heap.size + 1 := by omega
   go_wp2
   refine bodyPost_ret (v := .tuple #[.agg #[.string d1, .int .i64 d2, .bool false], .bool true]) (by simp [results, Tryz.results29, go_sem, World.cell?_setCell_same, World.cell?_setCell_other, *]) rfl ⟨rfl, ?_⟩
   repeat (first | refine Below.setCell ?_ (by first | exact Nat.le_refl _ | (dsimp only; omega)) _ | refine Below.alloc ?_ (by first | exact Nat.le_refl _ | omega | (simp; omega)) _ | refine Below.drew ?_)
   exact F1.out.2.2.2
theorem sdi_ok {b z : Int} {s t : ByteArray} {p q : Int} {c : Bool} {u d1 : ByteArray} {o d2 : Int} {k : Bool} (HS : ∀ W, Calls Tryz.prog 28 #[.int .u64 b, .int .i64 z] W fun e w' => e = .returned (.tuple #[.agg #[.string s, .int .i64 p, .bool false, .string t, .int .i64 q, .bool false, .bool c], .agg #[.string u, .int .i64 o, .bool false], .nilIface]) ∧ Below W.heap.size W w') (HN : ∀ W, Calls Tryz.prog 29 #[.agg #[.string s, .int .i64 p, .bool false, .string t, .int .i64 q, .bool false, .bool c], .agg #[.string u, .int .i64 o, .bool false], .int .i64 1, .int .i64 17] W fun e w' => e = .returned (.tuple #[.agg #[.string d1, .int .i64 d2, .bool false], .bool k]) ∧ Below W.heap.size W w') (w : World) :
 Calls Tryz.prog 8 #[.int .u64 b, .int .i64 z] w fun x w' => x = .returned (.tuple #[.agg #[.string d1, .int .i64 d2, .bool false], .nilIface]) ∧ Below w.heap.size w w' := by
 have F0 : Hid (Bk (w.alloc (.cells #[.string ⟨#[]⟩, .int .i64 0, .bool false] 24)) (w.heap.size) [.string ⟨#[]⟩, .int .i64 0, .bool false] ∧ Below w.heap.size w (w.alloc (.cells #[.string ⟨#[]⟩, .int .i64 0, .bool false] 24))) := ⟨Bk.new3 w (.string ⟨#[]⟩) (.int .i64 0) (.bool false) 24, ((Below.refl w.heap.size w)).alloc (Nat.le_refl _) _⟩
 go_enter Tryz.func8, Tryz.ntmps8
 go_upto_region 1 with fail
 generalize (w.alloc (.cells #[.string ⟨#[]⟩, .int .i64 0, .bool false] 24)) = w1 at *
 go_wp2_with fail
 all_goals first | (exfalso; omega) | skip
 refine (HS _).mono ?_
 rintro o2 w2 ⟨rfl, bb⟩
 have F1 : Hid (Bk w2 (w.heap.size) [.string ⟨#[]⟩, .int .i64 0, .bool false] ∧ Below w.heap.size w w2) := ⟨(F0.out.1).step bb, (F0.out.2).trans (bb.mono (F0.out.2).size)⟩
 clear F0
 clear bb
 have lt0_1 := (F1.out.1).lt
 have le1 := (F1.out.2).size
 have F2 : Hid (Bk ((w2.alloc (.cells #[.string s, .int .i64 p, .bool false, .string t, .int .i64 q, .bool false, .bool c] 59)).alloc (.cells #[.string u, .int .i64 o, .bool false] 24)) (w.heap.size) [.string ⟨#[]⟩, .int .i64 0, .bool false] ∧ Bk ((w2.alloc (.cells #[.string s, .int .i64 p, .bool false, .string t, .int .i64 q, .bool false, .bool c] 59)).alloc (.cells #[.string u, .int .i64 o, .bool false] 24)) (w2.heap.size) [.string s, .int .i64 p, .bool false, .string t, .int .i64 q, .bool false, .bool c] ∧ Bk ((w2.alloc (.cells #[.string s, .int .i64 p, .bool false, .string t, .int .i64 q, .bool false, .bool c] 59)).alloc (.cells #[.string u, .int .i64 o, .bool false] 24)) (w2.heap.size + 1) [.string u, .int .i64 o, .bool false] ∧ Below w.heap.size w ((w2.alloc (.cells #[.string s, .int .i64 p, .bool false, .string t, .int .i64 q, .bool false, .bool c] 59)).alloc (.cells #[.string u, .int .i64 o, .bool false] 24))) := ⟨((F1.out.1).step ((Below.refl _ _).alloc (Nat.le_refl _) _)).step ((Below.refl _ _).alloc (Nat.le_refl _) _), (Bk.new7 w2 (.string s) (.int .i64 p) (.bool false) (.string t) (.int .i64 q) (.bool false) (.bool c) 59).step ((Below.refl _ _).alloc (Nat.le_refl _) _), ((by have q := Bk.new3 (w2.alloc (.cells #[.string s, .int .i64 p, .bool false, .string t, .int .i64 q, .bool false, .bool c] 59)) (.string u) (.int .i64 o) (.bool false) 24; simpa using q) : Bk ((w2.alloc (.cells #[.string s, .int .i64 p, .bool false, .string t, .int .i64 q, .bool false, .bool c] 59)).alloc (.cells #[.string u, .int .i64 o, .bool false] 24)) (w2.heap.size + 1) [.string u, .int .i64 o, .bool false]), ((F1.out.2).alloc ((F1.out.2).size) _).alloc (((F1.out.2).alloc ((F1.out.2).size) _).size) _⟩
 clear F1
 go_upto_region 2 with fail
 generalize ((w2.alloc (.cells #[.string s, .int .i64 p, .bool false, .string t, .int .i64 q, .bool false, .bool c] 59)).alloc (.cells #[.string u, .int .i64 o, .bool false] 24)) = w3 at *
 have l1_0 := F2.out.1.lt
 have a1_0_0 := F2.out.1.cell 0 _ rfl
 have f1_0_0 := F2.out.1.fz 0
 have a1_0_1 := F2.out.1.cell 1 _ rfl
 have f1_0_1 := F2.out.1.fz 1
 have a1_0_2 := F2.out.1.cell 2 _ rfl
 have f1_0_2 := F2.out.1.fz 2
 have l1_1 := F2.out.2.1.lt
 have a1_1_0 := F2.out.2.1.cell 0 _ rfl
 have f1_1_0 := F2.out.2.1.fz 0
 have a1_1_1 := F2.out.2.1.cell 1 _ rfl
 have f1_1_1 := F2.out.2.1.fz 1
 have a1_1_2 := F2.out.2.1.cell 2 _ rfl
 have f1_1_2 := F2.out.2.1.fz 2
 have a1_1_3 := F2.out.2.1.cell 3 _ rfl
 have f1_1_3 := F2.out.2.1.fz 3
 have a1_1_4 := F2.out.2.1.cell 4 _ rfl
 have f1_1_4 := F2.out.2.1.fz 4
 have a1_1_5 := F2.out.2.1.cell 5 _ rfl
 have f1_1_5 := F2.out.2.1.fz 5
 have a1_1_6 := F2.out.2.1.cell 6 _ rfl
 have f1_1_6 := F2.out.2.1.fz 6
 have l1_2 := F2.out.2.2.1.lt
 have a1_2_0 := F2.out.2.2.1.cell 0 _ rfl
 have f1_2_0 := F2.out.2.2.1.fz 0
 have a1_2_1 := F2.out.2.2.1.cell 1 _ rfl
 have f1_2_1 := F2.out.2.2.1.fz 1
 have a1_2_2 := F2.out.2.2.1.cell 2 _ rfl
 have f1_2_2 := F2.out.2.2.1.fz 2
 have ne1_0_1 : ¬ w.heap.size = w2.heap.size := by omega
 have ne1_0_2 : ¬ w.heap.size = w2.heap.size + 1 := by omega
 have ne1_1_0 : ¬ w2.heap.size = w.heap.size := by omega
 have ne1_1_2 : ¬ w2.heap.size = w2.heap.size + 1 := by omega
 have ne1_2_0 : ¬ w2.heap.size + 1 = w.heap.size := by omega
 have ne1_2_1 : ¬ w2.heap.size + 1 = w2.heap.size := by omega
 go_wp2_with fail
 all_goals first | (exfalso; omega) | skip
 refine (HN _).mono ?_
 rintro o4 w4 ⟨rfl, bb⟩
 have F3 : Hid (Bk w4 (w.heap.size) [.string ⟨#[]⟩, .int .i64 0, .bool false] ∧ Bk w4 (w2.heap.size) [.string s, .int .i64 p, .bool false, .string t, .int .i64 q, .bool false, .bool c] ∧ Bk w4 (w2.heap.size + 1) [.string u, .int .i64 o, .bool false] ∧ Below w.heap.size w w4) := ⟨(F2.out.1).step bb, (F2.out.2.1).step bb, (F2.out.2.2.1).step bb, (F2.out.2.2.2).trans (bb.mono (F2.out.2.2.2).size)⟩
 clear F2
 clear bb
 clear l1_0 a1_0_0 f1_0_0 a1_0_1 f1_0_1 a1_0_2 f1_0_2 l1_1 a1_1_0 f1_1_0 a1_1_1 f1_1_1 a1_1_2 f1_1_2 a1_1_3 f1_1_3 a1_1_4 f1_1_4 a1_1_5 f1_1_5 a1_1_6 f1_1_6 l1_2 a1_2_0 f1_2_0 a1_2_1 f1_2_1 a1_2_2 f1_2_2
 have lt0_3 := (F3.out.1).lt
 have lt1_3 := (F3.out.2.1).lt
 have lt2_3 := (F3.out.2.2.1).lt
 have le3 := (F3.out.2.2.2).size
 have F4 : Hid (Bk (w4.alloc (.cells #[.string d1, .int .i64 d2, .bool false] 24)) (w.heap.size) [.string ⟨#[]⟩, .int .i64 0, .bool false] ∧ Bk (w4.alloc (.cells #[.string d1, .int .i64 d2, .bool false] 24)) (w2.heap.size) [.string s, .int .i64 p, .bool false, .string t, .int .i64 q, .bool false, .bool c] ∧ Bk (w4.alloc (.cells #[.string d1, .int .i64 d2, .bool false] 24)) (w2.heap.size + 1) [.string u, .int .i64 o, .bool false] ∧ Bk (w4.alloc (.cells #[.string d1, .int .i64 d2, .bool false] 24)) (w4.heap.size) [.string d1, .int .i64 d2, .bool false] ∧ Below w.heap.size w (w4.alloc (.cells #[.string d1, .int .i64 d2, .bool false] 24))) := ⟨(F3.out.1).step ((Below.refl _ _).alloc (Nat.le_refl _) _), (F3.out.2.1).step ((Below.refl _ _).alloc (Nat.le_refl _) _), (F3.out.2.2.1).step ((Below.refl _ _).alloc (Nat.le_refl _) _), Bk.new3 w4 (.string d1) (.int .i64 d2) (.bool false) 24, (F3.out.2.2.2).alloc ((F3.out.2.2.2).size) _⟩
 clear F3
 go_upto_region 5 with fail
 generalize (w4.alloc (.cells #[.string d1, .int .i64 d2, .bool false] 24)) = w5 at *
 have l2_0 := F4.out.1.lt
 have a2_0_0 := F4.out.1.cell 0 _ rfl
 have f2_0_0 := F4.out.1.fz 0
 have a2_0_1 := F4.out.1.cell 1 _ rfl
 have f2_0_1 := F4.out.1.fz 1
 have a2_0_2 := F4.out.1.cell 2 _ rfl
 have f2_0_2 := F4.out.1.fz 2
 have l2_1 := F4.out.2.1.lt
 have a2_1_0 := F4.out.2.1.cell 0 _ rfl
 have f2_1_0 := F4.out.2.1.fz 0
 have a2_1_1 := F4.out.2.1.cell 1 _ rfl
 have f2_1_1 := F4.out.2.1.fz 1
 have a2_1_2 := F4.out.2.1.cell 2 _ rfl
 have f2_1_2 := F4.out.2.1.fz 2
 have a2_1_3 := F4.out.2.1.cell 3 _ rfl
 have f2_1_3 := F4.out.2.1.fz 3
 have a2_1_4 := F4.out.2.1.cell 4 _ rfl
 have f2_1_4 := F4.out.2.1.fz 4
 have a2_1_5 := F4.out.2.1.cell 5 _ rfl
 have f2_1_5 := F4.out.2.1.fz 5
 have a2_1_6 := F4.out.2.1.cell 6 _ rfl
 have f2_1_6 := F4.out.2.1.fz 6
 have l2_2 := F4.out.2.2.1.lt
 have a2_2_0 := F4.out.2.2.1.cell 0 _ rfl
 have f2_2_0 := F4.out.2.2.1.fz 0
 have a2_2_1 := F4.out.2.2.1.cell 1 _ rfl
 have f2_2_1 := F4.out.2.2.1.fz 1
 have a2_2_2 := F4.out.2.2.1.cell 2 _ rfl
 have f2_2_2 := F4.out.2.2.1.fz 2
 have l2_3 := F4.out.2.2.2.1.lt
 have a2_3_0 := F4.out.2.2.2.1.cell 0 _ rfl
 have f2_3_0 := F4.out.2.2.2.1.fz 0
 have a2_3_1 := F4.out.2.2.2.1.cell 1 _ rfl
 have f2_3_1 := F4.out.2.2.2.1.fz 1
 have a2_3_2 := F4.out.2.2.2.1.cell 2 _ rfl
 have f2_3_2 := F4.out.2.2.2.1.fz 2
 have ne2_0_1 : ¬ w.heap.size = w2.heap.size := by omega
 have ne2_0_2 : ¬ w.heap.size = w2.heap.size + 1 := by omega
 have ne2_0_3 : ¬ w.heap.size = w4.heap.size := by omega
 have ne2_1_0 : ¬ w2.heap.size = w.heap.size := by omega
 have ne2_1_2 : ¬ w2.heap.size = w2.heap.size + 1 := by omega
 have ne2_1_3 : ¬ w2.heap.size = w4.heap.size := by omega
 have ne2_2_0 : ¬ w2.heap.size + 1 = w.heap.size := by omega
 have ne2_2_1 : ¬ w2.heap.size + 1 = w2.heap.size := by omega
 have ne2_2_3 : ¬ w2.heap.size + 1 = w4.heap.size := by omega
 have ne2_3_0 : ¬ w4.heap.size = w.heap.size := by omega
 have ne2_3_1 : ¬ w4.heap.size = w2.heap.size := by omega
 have ne2_3_2 : ¬ w4.heap.size = w2.heap.size + 1 := by omega
 go_wp2
 refine bodyPost_ret (v := .tuple #[.agg #[.string d1, .int .i64 d2, .bool false], .nilIface]) (by simp [results, Tryz.results8, go_sem, World.cell?_setCell_same, World.cell?_setCell_other, *]) rfl ⟨rfl, ?_⟩
 repeat (first | refine Below.setCell ?_ (by first | exact Nat.le_refl _ | (dsimp only; omega)) _ | refine Below.alloc ?_ (by first | exact Nat.le_refl _ | omega | (simp; omega)) _ | refine Below.drew ?_)
 exact F4.out.2.2.2.2
theorem pwT_add (a b : Nat) : pwT (a + b) = pwT a * pwT b := Nat.pow_add 10 a b
theorem pwT_lt {a b : Nat} (h : pwT a < pwT b) : a < b := (Nat.pow_lt_pow_iff_right (by decide)).1 h
theorem dx_near {m : Nat} {e : Int} (hm : m ≤ 18014398509481984) (h1 : -1075 ≤ e) (h2 : e ≤ 971) {s : ByteArray} {p : Int} (D : Dx s p (fv m e)) (h0 : 0 < s.size) : p ≤ 1000 := by
 obtain ⟨k, j, h, he⟩ : ∃ k j, Kj m k j ∧ e = (j : Int) - (k : Int) := by
  rcases Int.lt_or_le e 0 with c | c
  · exact ⟨(-e).toNat, 0, ⟨hm, by omega, by omega, Or.inr rfl⟩, by omega⟩
  · exact ⟨0, e.toNat, ⟨hm, by omega, by omega, Or.inl rfl⟩, by omega⟩
 have w := h.wh
 have f := h.fv he
 obtain ⟨d0, d1, _⟩ := D.some h0
 have a : fv m e < pwT 800 * pwT (R0 - k) := by
  rw [f]
  exact Nat.mul_lt_mul_of_pos_right w (Nat.pow_pos (by decide))
 obtain ⟨e8, h8⟩ : ∃ e8, e8 = 800 := ⟨_, rfl⟩
 rw [← h8, ← pwT_add] at a
 have b : pwT (p + (R0 : Int) - 1).toNat < pwT (e8 + (R0 - k)) := Nat.lt_of_le_of_lt d1 a
 have := pwT_lt b
 omega
theorem cands {u : ByteArray} {o : Int} {X A : Nat} (G : Dx u o X) (u0 : 0 < u.size) (o1 : o ≤ 1000) (hA : o + (R0 : Int) = (A : Int)) :
 ∃ d1 d2 : Nat → Dp, ∀ n, 1 ≤ n → n ≤ 17 → (d1 n).2 = o ∧ Du u o n (d1 n).1 (d2 n).1 (d2 n).2 ∧ Dx (d1 n).1 o (dnU X (10 ^ (A - n))) ∧ Dx (d2 n).1 (d2 n).2 (upU X (10 ^ (A - n))) := by
 have H : ∀ n, ∃ d : Dp × Dp, 1 ≤ n → n ≤ 17 → d.1.2 = o ∧ Du u o n d.1.1 d.2.1 d.2.2 ∧ Dx d.1.1 o (dnU X (10 ^ (A - n))) ∧ Dx d.2.1 d.2.2 (upU X (10 ^ (A - n))) := by
  intro n
  by_cases c : 1 ≤ n ∧ n ≤ 17
  · obtain ⟨s1, s2, p2, D1, D2, du⟩ := du_ex G u0 o1 hA (n := n) (by omega) c.2
    exact ⟨((s1, o), (s2, p2)), fun _ _ => ⟨rfl, du, D1, D2⟩⟩
  · exact ⟨((u, o), (u, o)), fun a b => absurd ⟨a, b⟩ c⟩
 obtain ⟨f, hf⟩ := Classical.axiomOfChoice H
 exact ⟨fun n => (f n).1, fun n => (f n).2, fun n a b => hf n a b⟩
def rC (u : ByteArray) (d1 d2 : Nat → Dp) (n : Nat) : Dp := if n < u.size ∧ upB u false n = true then d2 n else d1 n
theorem rn_is {u : ByteArray} {o : Int} {X A : Nat} (G : Dx u o X) (u0 : 0 < u.size) (hA : o + (R0 : Int) = (A : Int)) {n : Nat} (n0 : 1 ≤ n) : (n < u.size ∧ upB u false n = true) ↔ rnB X (10 ^ (A - n)) = true := by
 have S0 : 0 < 10 ^ (A - n) := Nat.pow_pos (by decide)
 unfold rnB
 rw [decide_eq_true_eq]
 by_cases c : n < u.size
 · rw [← up_num G u0 hA n0 c]
   exact ⟨fun h => h.2, fun h => ⟨c, h⟩⟩
 · have mz : X % 10 ^ (A - n) = 0 := by
    have lo := G.lo
    have vl := G.vl
    rw [hA] at vl lo
    rw [← vl, show ((A : Int) - (u.size : Int)).toNat = (A - u.size - (A - n)) + (A - n) by omega, Nat.pow_add, ← Nat.mul_assoc, Nat.mul_mod_left]
   rw [mz]
   constructor
   · intro h; exact absurd h.1 c
   · intro h; omega
structure Fl (z : Int) (f T : Nat) (L : Int) (S I b : Nat) (u : ByteArray) (o : Int) (s : ByteArray) (p : Int) (t : ByteArray) (q : Int) (A : Nat) (d1 d2 : Nat → Dp) : Prop where
 fn : Fn z f T L S I b
 m0 : mg S b ≠ 0
 g : Dx u o (vlF f L (mg S b))
 d : Dx s p (loF f L (mg S b))
 e : Dx t q (hiF f L (mg S b))
 o1 : o ≤ 1000
 hA : o + (R0 : Int) = (A : Int)
 c : ∀ n, 1 ≤ n → n ≤ 17 → (d1 n).2 = o ∧ Du u o n (d1 n).1 (d2 n).1 (d2 n).2 ∧ Dx (d1 n).1 o (dnU (vlF f L (mg S b)) (10 ^ (A - n))) ∧ Dx (d2 n).1 (d2 n).2 (upU (vlF f L (mg S b)) (10 ^ (A - n)))
theorem fl_ex {z : Int} {f T : Nat} {L : Int} {S I b : Nat} (h : Fn z f T L S I b) (m0 : mg S b ≠ 0) : ∃ u o s p t q A d1 d2, Fl z f T L S I b u o s p t q A d1 d2 := by
 obtain ⟨⟨s, p, D⟩, ⟨t, q, E⟩, u, o, G⟩ := Fn.has h
 have fs := h.sf.fs.1
 have u0 := G.pos.2 (vl_pos (f := f) L m0)
 have x := xp_in fs h.m
 have m := mt_lt fs (mg S b)
 have o1 := dx_near (by omega) (by omega) (by omega) G u0
 have lo := G.lo
 obtain ⟨A, hA⟩ : ∃ A : Nat, o + (R0 : Int) = (A : Int) := ⟨(o + (R0 : Int)).toNat, by omega⟩
 obtain ⟨d1, d2, hc⟩ := cands G u0 o1 hA
 exact ⟨u, o, s, p, t, q, A, d1, d2, h, m0, G, D, E, o1, hA, hc⟩
theorem Fl.pos {z : Int} {f T : Nat} {L : Int} {S I b : Nat} {u : ByteArray} {o : Int} {s : ByteArray} {p : Int} {t : ByteArray} {q : Int} {A : Nat} {d1 d2 : Nat → Dp} (h : Fl z f T L S I b u o s p t q A d1 d2) : 0 < u.size := h.g.pos.2 (vl_pos (f := f) L h.m0)
theorem Fl.rm {z : Int} {f T : Nat} {L : Int} {S I b : Nat} {u : ByteArray} {o : Int} {s : ByteArray} {p : Int} {t : ByteArray} {q : Int} {A : Nat} {d1 d2 : Nat → Dp} (h : Fl z f T L S I b u o s p t q A d1 d2) : Rm (loF f L (mg S b)) (vlF f L (mg S b)) (hiF f L (mg S b)) := vl_rm h.fn.sf.fs.1 h.fn.m h.m0
theorem Fl.hd {z : Int} {f T : Nat} {L : Int} {S I b : Nat} {u : ByteArray} {o : Int} {s : ByteArray} {p : Int} {t : ByteArray} {q : Int} {A : Nat} {d1 d2 : Nat → Dp} (h : Fl z f T L S I b u o s p t q A d1 d2) {c : Bool} {v : ByteArray} {k : Int} {Z : Nat} (D : Dx v k Z) : hdB c s p t q (v, k) = hitB c (loF f L (mg S b)) (hiF f L (mg S b)) Z := by
 unfold hdB hitB
 rw [dx_low D h.d, dx_low D h.e]
theorem ten_pos (n : Nat) : 0 < 10 ^ n := Nat.pow_pos (by decide)
theorem Fl.rc {z : Int} {f T : Nat} {L : Int} {S I b : Nat} {u : ByteArray} {o : Int} {s : ByteArray} {p : Int} {t : ByteArray} {q : Int} {A : Nat} {d1 d2 : Nat → Dp} (h : Fl z f T L S I b u o s p t q A d1 d2) {n : Nat} (n0 : 1 ≤ n) (n1 : n ≤ 17) : Dx (rC u d1 d2 n).1 (rC u d1 d2 n).2 (rnU (vlF f L (mg S b)) (10 ^ (A - n))) := by
 obtain ⟨c1, _, c3, c4⟩ := h.c n n0 n1
 have e := rn_is h.g h.pos h.hA n0
 unfold rC rnU
 by_cases q : n < u.size ∧ upB u false n = true
 · rw [if_pos q, if_pos (e.1 q)]; exact c4
 · rw [if_neg q, if_neg (fun g => q (e.2 g)), c1]; exact c3
def fD (c : Bool) (s : ByteArray) (p : Int) (t : ByteArray) (q : Int) (u : ByteArray) (d1 d2 : Nat → Dp) (n : Nat) : Option Dp := [rC u d1 d2 n, d2 n].find? (hdB c s p t q)
theorem fD_is (c : Bool) (s : ByteArray) (p : Int) (t : ByteArray) (q : Int) (u : ByteArray) (d1 d2 : Nat → Dp) (n : Nat) : fD c s p t q u d1 d2 n = if hdB c s p t q (rC u d1 d2 n) then some (rC u d1 d2 n) else if hdB c s p t q (d2 n) then some (d2 n) else none := by
 unfold fD
 rw [List.find?_cons, List.find?_cons, List.find?_nil]
 cases hdB c s p t q (rC u d1 d2 n) <;> cases hdB c s p t q (d2 n) <;> rfl
theorem Fl.pick {z : Int} {f T : Nat} {L : Int} {S I b : Nat} {u : ByteArray} {o : Int} {s : ByteArray} {p : Int} {t : ByteArray} {q : Int} {A : Nat} {d1 d2 : Nat → Dp} (h : Fl z f T L S I b u o s p t q A d1 d2) (c : Bool) {n : Nat} (n0 : 1 ≤ n) (n1 : n ≤ 17) :
    (fD c s p t q u d1 d2 n = none ∧ pickU c (loF f L (mg S b)) (hiF f L (mg S b)) (vlF f L (mg S b)) (10 ^ (A - n)) = none) ∨
    ∃ d Z, fD c s p t q u d1 d2 n = some d ∧ pickU c (loF f L (mg S b)) (hiF f L (mg S b)) (vlF f L (mg S b)) (10 ^ (A - n)) = some Z ∧ Dx d.1 d.2 Z ∧ hdB c s p t q d = true ∧ (d = d1 n ∨ d = d2 n) := by
  have R := h.rc n0 n1
  obtain ⟨c1, _, c3, c4⟩ := h.c n n0 n1
  have e1 := h.hd (c := c) R
  have e2 := h.hd (c := c) c4
  rw [fD_is]
  unfold pickU
  rw [← e1, ← e2]
  have way : rC u d1 d2 n = d1 n ∨ rC u d1 d2 n = d2 n := by
    unfold rC
    split
    · exact Or.inr rfl
    · exact Or.inl rfl
  cases a : hdB c s p t q (rC u d1 d2 n) with
  | true => exact Or.inr ⟨_, _, rfl, rfl, R, a, way⟩
  | false =>
    cases b : hdB c s p t q (d2 n) with
    | true => exact Or.inr ⟨_, _, rfl, rfl, c4, b, Or.inr rfl⟩
    | false => exact Or.inl ⟨rfl, rfl⟩
theorem Fl.none_iff {z : Int} {f T : Nat} {L : Int} {S I b : Nat} {u : ByteArray} {o : Int} {s : ByteArray} {p : Int} {t : ByteArray} {q : Int} {A : Nat} {d1 d2 : Nat → Dp} (h : Fl z f T L S I b u o s p t q A d1 d2) (c : Bool) {n : Nat} (n0 : 1 ≤ n) (n1 : n ≤ 17) : fD c s p t q u d1 d2 n = none ↔ anyB c (loF f L (mg S b)) (hiF f L (mg S b)) (vlF f L (mg S b)) (10 ^ (A - n)) = false := by
 rw [← pick_none h.rm (ten_pos _)]
 rcases h.pick c n0 n1 with ⟨a, b⟩ | ⟨d, Z, a, b, _⟩
 · exact ⟨fun _ => b, fun _ => a⟩
 · rw [a, b]
   exact ⟨fun k => (by cases k), fun k => (by cases k)⟩
theorem Fl.mono {z : Int} {f T : Nat} {L : Int} {S I b : Nat} {u : ByteArray} {o : Int} {s : ByteArray} {p : Int} {t : ByteArray} {q : Int} {A : Nat} {d1 d2 : Nat → Dp} (h : Fl z f T L S I b u o s p t q A d1 d2) (c : Bool) {n m : Nat} (n0 : 1 ≤ n) (nm : n ≤ m) (m1 : m ≤ 17) (a : fD c s p t q u d1 d2 m = none) : fD c s p t q u d1 d2 n = none := by
  rw [h.none_iff c (by omega) m1] at a
  rw [h.none_iff c n0 (by omega)]
  cases k : anyB c (loF f L (mg S b)) (hiF f L (mg S b)) (vlF f L (mg S b)) (10 ^ (A - n)) with
  | false => rfl
  | true =>
    rw [any_mono h.rm (ten_pos (A - m)) (Nat.pow_dvd_pow 10 (by omega)) k] at a
    cases a
theorem Fl.there {z : Int} {f T : Nat} {L : Int} {S I b : Nat} {u : ByteArray} {o : Int} {s : ByteArray} {p : Int} {t : ByteArray} {q : Int} {A : Nat} {d1 d2 : Nat → Dp} (h : Fl z f T L S I b u o s p t q A d1 d2) (c : Bool) {N : Nat} (hN : 2 ^ (f + 1) ≤ 10 ^ (N - 1)) (N0 : 1 ≤ N) (N1 : N ≤ 17) : ∃ d, fD c s p t q u d1 d2 N = some d := by
  cases k : fD c s p t q u d1 d2 N with
  | some d => exact ⟨d, rfl⟩
  | none =>
    exfalso
    rw [h.none_iff c N0 N1] at k
    unfold anyB at k
    rw [Bool.or_eq_false_iff] at k
    have low := (h.g.some h.pos).2.1
    rw [h.hA, show ((A : Int) - 1).toNat = A - 1 by omega] at low
    have r := h.rm
    have e1 := dn_le (vlF f L (mg S b)) (10 ^ (A - N))
    have e2 := up_ge (X := vlF f L (mg S b)) (ten_pos (A - N))
    rcases digits_there h.fn.sf.fs.1 hN N0 h.m0 h.fn.m low with q | q
    · have q' : loF f L (mg S b) < dnU (vlF f L (mg S b)) (10 ^ (A - N)) := q
      have w : hitB c (loF f L (mg S b)) (hiF f L (mg S b)) (dnU (vlF f L (mg S b)) (10 ^ (A - N))) = true := by
        rw [hitB_iff]
        have := r.above
        cases c
        · exact Or.inr ⟨rfl, by omega, by omega⟩
        · exact Or.inl ⟨rfl, by omega, by omega⟩
      rw [w] at k
      cases k.1
    · have q' : upU (vlF f L (mg S b)) (10 ^ (A - N)) < hiF f L (mg S b) := q
      have w : hitB c (loF f L (mg S b)) (hiF f L (mg S b)) (upU (vlF f L (mg S b)) (10 ^ (A - N))) = true := by
        rw [hitB_iff]
        have := r.below
        cases c
        · exact Or.inr ⟨rfl, by omega, by omega⟩
        · exact Or.inl ⟨rfl, by omega, by omega⟩
      rw [w] at k
      cases k.2
theorem seek_least {capv : Value} {J : World → Prop} (hJ : ∀ W W', J W → Below W.heap.size W W' → J W') {s t : ByteArray} {p q : Int} {c : Bool} (hs : VD s p false) (ht : VD t q false) {few many len : Nat} (fm : few ≤ many) (hm : many ≤ 800) (hl : len ≤ 2) {cand : Nat → List Dp} (hc : ∀ n, (cand n).length = len) (hv : ∀ n, few ≤ n → n ≤ many → ∀ d ∈ cand n, VD d.1 d.2 false)
    (HT : ∀ n, few ≤ n → n ≤ many → ∀ W, J W → Calls Tryz.prog 64 #[.int .i64 (n : Int), capv] W fun e w' => ∃ a : Nat, e = .returned (.slice (some ⟨a, 0, none⟩) len len) ∧ DRow w' a (cand n) ∧ Below W.heap.size W w') (w : World) (j0 : J w) :
    Calls Tryz.prog 52 #[.agg #[.string s, .int .i64 p, .bool false, .string t, .int .i64 q, .bool false, .bool c], .int .i64 (few : Int), .int .i64 (many : Int), .func (.func 64) #[] #[capv]] w fun x w' => x = .returned (ansV (seekF (hdB c s p t q) cand few (many + 1 - few))) ∧ Below w.heap.size w w' := by
  obtain ⟨R, hR⟩ : ∃ R, R = seekF (hdB c s p t q) cand few (many + 1 - few) := ⟨_, rfl⟩
  rw [← hR]
  have HR : Hid (seekF (hdB c s p t q) cand few (many + 1 - few) = R) := hR.symm
  have HJ : Hid ((∀ W W', J W → Below W.heap.size W W' → J W') ∧ J w) := ⟨hJ, j0⟩
  have HV : Hid (∀ n, few ≤ n → n ≤ many → ∀ d ∈ cand n, VD d.1 d.2 false) := hv
  have HL : Hid (∀ n, (cand n).length = len) := hc
  have HVD : Hid (VD s p false ∧ VD t q false) := ⟨hs, ht⟩
  have HTT : Hid (∀ n, few ≤ n → n ≤ many → ∀ W, J W → Calls Tryz.prog 64 #[.int .i64 (n : Int), capv] W fun e w' => ∃ a : Nat, e = .returned (.slice (some ⟨a, 0, none⟩) len len) ∧ DRow w' a (cand n) ∧ Below W.heap.size W w') := HT
  clear hR hJ j0 hv hc hs ht HT
  have F0 : Hid (Bk (((w.alloc (.cells #[.string s, .int .i64 p, .bool false, .string t, .int .i64 q, .bool false, .bool c] 59)).alloc (.cells #[.string ⟨#[]⟩, .int .i64 0, .bool false] 24)).alloc (.cells #[.string ⟨#[]⟩, .int .i64 0, .bool false] 24)) (w.heap.size) [.string s, .int .i64 p, .bool false, .string t, .int .i64 q, .bool false, .bool c] ∧ Bk (((w.alloc (.cells #[.string s, .int .i64 p, .bool false, .string t, .int .i64 q, .bool false, .bool c] 59)).alloc (.cells #[.string ⟨#[]⟩, .int .i64 0, .bool false] 24)).alloc (.cells #[.string ⟨#[]⟩, .int .i64 0, .bool false] 24)) (w.heap.size + 1) [.string ⟨#[]⟩, .int .i64 0, .bool false] ∧ Bk (((w.alloc (.cells #[.string s, .int .i64 p, .bool false, .string t, .int .i64 q, .bool false, .bool c] 59)).alloc (.cells #[.string ⟨#[]⟩, .int .i64 0, .bool false] 24)).alloc (.cells #[.string ⟨#[]⟩, .int .i64 0, .bool false] 24)) (w.heap.size + 1 + 1) [.string ⟨#[]⟩, .int .i64 0, .bool false] ∧ Below w.heap.size w (((w.alloc (.cells #[.string s, .int .i64 p, .bool false, .string t, .int .i64 q, .bool false, .bool c] 59)).alloc (.cells #[.string ⟨#[]⟩, .int .i64 0, .bool false] 24)).alloc (.cells #[.string ⟨#[]⟩, .int .i64 0, .bool false] 24))) := ⟨((Bk.new7 w (.string s) (.int .i64 p) (.bool false) (.string t) (.int .i64 q) (.bool false) (.bool c) 59).step ((Below.refl _ _).alloc (Nat.le_refl _) _)).step ((Below.refl _ _).alloc (Nat.le_refl _) _), (((by have q := Bk.new3 (w.alloc (.cells #[.string s, .int .i64 p, .bool false, .string t, .int .i64 q, .bool false, .bool c] 59)) (.string ⟨#[]⟩) (.int .i64 0) (.bool false) 24; simpa using q) : Bk ((w.alloc (.cells #[.string s, .int .i64 p, .bool false, .string t, .int .i64 q, .bool false, .bool c] 59)).alloc (.cells #[.string ⟨#[]⟩, .int .i64 0, .bool false] 24)) (w.heap.size + 1) [.string ⟨#[]⟩, .int .i64 0, .bool false])).step ((Below.refl _ _).alloc (Nat.le_refl _) _), ((by have q := Bk.new3 ((w.alloc (.cells #[.string s, .int .i64 p, .bool false, .string t, .int .i64 q, .bool false, .bool c] 59)).alloc (.cells #[.string ⟨#[]⟩, .int .i64 0, .bool false] 24)) (.string ⟨#[]⟩) (.int .i64 0) (.bool false) 24; simpa using q) : Bk (((w.alloc (.cells #[.string s, .int .i64 p, .bool false, .string t, .int .i64 q, .bool false, .bool c] 59)).alloc (.cells #[.string ⟨#[]⟩, .int .i64 0, .bool false] 24)).alloc (.cells #[.string ⟨#[]⟩, .int .i64 0, .bool false] 24)) (w.heap.size + 1 + 1) [.string ⟨#[]⟩, .int .i64 0, .bool false]), ((((Below.refl w.heap.size w)).alloc (Nat.le_refl _) _).alloc ((((Below.refl w.heap.size w)).alloc (Nat.le_refl _) _).size) _).alloc (((((Below.refl w.heap.size w)).alloc (Nat.le_refl _) _).alloc ((((Below.refl w.heap.size w)).alloc (Nat.le_refl _) _).size) _).size) _⟩
  go_enter Tryz.func52, Tryz.ntmps52
  have IB : Hid (Bk (((w.alloc (.cells #[.string s, .int .i64 p, .bool false, .string t, .int .i64 q, .bool false, .bool c] 59)).alloc (.cells #[.string ⟨#[]⟩, .int .i64 0, .bool false] 24)).alloc (.cells #[.string ⟨#[]⟩, .int .i64 0, .bool false] 24)) (w.heap.size) [.string s, .int .i64 p, .bool false, .string t, .int .i64 q, .bool false, .bool c] ∧ Bk (((w.alloc (.cells #[.string s, .int .i64 p, .bool false, .string t, .int .i64 q, .bool false, .bool c] 59)).alloc (.cells #[.string ⟨#[]⟩, .int .i64 0, .bool false] 24)).alloc (.cells #[.string ⟨#[]⟩, .int .i64 0, .bool false] 24)) (w.heap.size + 1) [.string ⟨#[]⟩, .int .i64 0, .bool false] ∧ Bk (((w.alloc (.cells #[.string s, .int .i64 p, .bool false, .string t, .int .i64 q, .bool false, .bool c] 59)).alloc (.cells #[.string ⟨#[]⟩, .int .i64 0, .bool false] 24)).alloc (.cells #[.string ⟨#[]⟩, .int .i64 0, .bool false] 24)) (w.heap.size + 1 + 1) [.string ⟨#[]⟩, .int .i64 0, .bool false] ∧ Below w.heap.size w (((w.alloc (.cells #[.string s, .int .i64 p, .bool false, .string t, .int .i64 q, .bool false, .bool c] 59)).alloc (.cells #[.string ⟨#[]⟩, .int .i64 0, .bool false] 24)).alloc (.cells #[.string ⟨#[]⟩, .int .i64 0, .bool false] 24))) := F0.out
  clear F0
  go_wp2
  go_step3
  go_wp2
  go_step3
  go_wp2
  go_loopg [11, 12, 14] (many + 1 - few) (fun g okv iv _ wr => ∃ n : Nat, okv = .bool false ∧ iv = .int .i64 (n : Int) ∧ few ≤ n ∧ n + g = many + 1 ∧ Hid (Bk wr (w.heap.size) [.string s, .int .i64 p, .bool false, .string t, .int .i64 q, .bool false, .bool c] ∧ Bk wr (w.heap.size + 1) [.string ⟨#[]⟩, .int .i64 0, .bool false] ∧ Bk wr (w.heap.size + 1 + 1) [.string ⟨#[]⟩, .int .i64 0, .bool false] ∧ Below w.heap.size w wr) ∧ Hid (seekF (hdB c s p t q) cand n g = R))
  case atStart => exact ⟨few, rfl, rfl, Nat.le_refl _, by omega, IB.out, HR.out⟩
  case round =>
    obtain ⟨n, rfl, rfl, hn, hng, HB, HS⟩ := hrel
    clear IB HR
    cases gk with
    | zero =>
      have F50 := HB
      clear HB
      have n1 : ¬ (n : Int) ≤ (many : Int) := by omega
      have e : R = none := HS.out.symm
      subst e
      have l1_0 := F50.out.1.lt
      have a1_0_0 := F50.out.1.cell 0 _ rfl
      have f1_0_0 := F50.out.1.fz 0
      have a1_0_1 := F50.out.1.cell 1 _ rfl
      have f1_0_1 := F50.out.1.fz 1
      have a1_0_2 := F50.out.1.cell 2 _ rfl
      have f1_0_2 := F50.out.1.fz 2
      have a1_0_3 := F50.out.1.cell 3 _ rfl
      have f1_0_3 := F50.out.1.fz 3
      have a1_0_4 := F50.out.1.cell 4 _ rfl
      have f1_0_4 := F50.out.1.fz 4
      have a1_0_5 := F50.out.1.cell 5 _ rfl
      have f1_0_5 := F50.out.1.fz 5
      have a1_0_6 := F50.out.1.cell 6 _ rfl
      have f1_0_6 := F50.out.1.fz 6
      have l1_1 := F50.out.2.1.lt
      have a1_1_0 := F50.out.2.1.cell 0 _ rfl
      have f1_1_0 := F50.out.2.1.fz 0
      have a1_1_1 := F50.out.2.1.cell 1 _ rfl
      have f1_1_1 := F50.out.2.1.fz 1
      have a1_1_2 := F50.out.2.1.cell 2 _ rfl
      have f1_1_2 := F50.out.2.1.fz 2
      have l1_2 := F50.out.2.2.1.lt
      have a1_2_0 := F50.out.2.2.1.cell 0 _ rfl
      have f1_2_0 := F50.out.2.2.1.fz 0
      have a1_2_1 := F50.out.2.2.1.cell 1 _ rfl
      have f1_2_1 := F50.out.2.2.1.fz 1
      have a1_2_2 := F50.out.2.2.1.cell 2 _ rfl
      have f1_2_2 := F50.out.2.2.1.fz 2
      have ne1_0_1 : ¬ w.heap.size = w.heap.size + 1 := by omega
      have ne1_0_2 : ¬ w.heap.size = w.heap.size + 1 + 1 := by omega
      have ne1_1_0 : ¬ w.heap.size + 1 = w.heap.size := by omega
      have ne1_1_2 : ¬ w.heap.size + 1 = w.heap.size + 1 + 1 := by omega
      have ne1_2_0 : ¬ w.heap.size + 1 + 1 = w.heap.size := by omega
      have ne1_2_1 : ¬ w.heap.size + 1 + 1 = w.heap.size + 1 := by omega
      go_wp2
      try rw [Exit.noGoto_ret]
      refine bodyPost_ret (v := .tuple #[.agg #[.string ⟨#[]⟩, .int .i64 0, .bool false], .bool false]) (by simp [results, Tryz.results52, go_sem, World.cell?_setCell_same, World.cell?_setCell_other, *]) rfl ⟨rfl, ?_⟩
      repeat (first | refine Below.setCell ?_ (by first | exact Nat.le_refl _ | (dsimp only; omega)) _ | refine Below.alloc ?_ (by first | exact Nat.le_refl _ | omega | (simp; omega)) _ | refine Below.drew ?_)
      exact F50.out.2.2.2
    | succ g =>
      have F50 := HB
      clear HB
      have n1 : (n : Int) ≤ (many : Int) := by omega
      have HTn := HTT.out n hn (by omega) _ (HJ.out.1 _ _ HJ.out.2 F50.out.2.2.2)
      go_wp2_with fail
      all_goals first | (exfalso; omega) | skip
      refine (HTn).mono ?_
      rintro o21 w21 ⟨a, rfl, dr, bb⟩
      have F51 : Hid (Bk w21 (w.heap.size) [.string s, .int .i64 p, .bool false, .string t, .int .i64 q, .bool false, .bool c] ∧ Bk w21 (w.heap.size + 1) [.string ⟨#[]⟩, .int .i64 0, .bool false] ∧ Bk w21 (w.heap.size + 1 + 1) [.string ⟨#[]⟩, .int .i64 0, .bool false] ∧ Below w.heap.size w w21) := ⟨(F50.out.1).step bb, (F50.out.2.1).step bb, (F50.out.2.2.1).step bb, (F50.out.2.2.2).trans (bb.mono (F50.out.2.2.2).size)⟩
      clear F50
      clear bb
      have DR : Hid (DRow w21 a (cand n)) := dr
      clear dr HTn
      have IB2 : Hid (Bk w21 (w.heap.size) [.string s, .int .i64 p, .bool false, .string t, .int .i64 q, .bool false, .bool c] ∧ Bk w21 (w.heap.size + 1) [.string ⟨#[]⟩, .int .i64 0, .bool false] ∧ Bk w21 (w.heap.size + 1 + 1) [.string ⟨#[]⟩, .int .i64 0, .bool false] ∧ DRow w21 a (cand n) ∧ Below w.heap.size w w21) := ⟨F51.out.1, F51.out.2.1, F51.out.2.2.1, DR.out, F51.out.2.2.2⟩
      clear F51 DR
      go_wp2
      go_loopg [11, 14, 25] len (fun g2 okv _ jv wy => ∃ j : Nat, okv = .bool false ∧ jv = .int .i64 (j : Int) ∧ j + g2 = len ∧ Hid (Bk wy (w.heap.size) [.string s, .int .i64 p, .bool false, .string t, .int .i64 q, .bool false, .bool c] ∧ Bk wy (w.heap.size + 1) [.string ⟨#[]⟩, .int .i64 0, .bool false] ∧ Bk wy (w.heap.size + 1 + 1) [.string ⟨#[]⟩, .int .i64 0, .bool false] ∧ DRow wy a (cand n) ∧ Below w.heap.size w wy) ∧ Hid (((cand n).drop j).find? (hdB c s p t q) = (cand n).find? (hdB c s p t q)))
      case atStart => exact ⟨0, rfl, rfl, by omega, IB2.out, rfl⟩
      case round =>
        obtain ⟨j, rfl, rfl, hj, HB, HF⟩ := hrel
        clear IB2
        cases gk with
        | zero =>
          have j1 : ¬ (j : Int) < (len : Int) := by omega
          have e : (cand n).find? (hdB c s p t q) = none := by
            rw [← HF.out, List.drop_eq_nil_of_le (by have := HL.out n; omega)]
            rfl
          have HS2 : Hid (seekF (hdB c s p t q) cand (n + 1) g = R) := by
            have := HS.out
            unfold seekF at this
            rw [e] at this
            exact this
          clear HS e
          go_wp2
          go_roundg g
          case measure => omega
          case rel => exact ⟨n + 1, rfl, by go_num, by omega, by omega, ⟨HB.out.1, HB.out.2.1, HB.out.2.2.1, HB.out.2.2.2.2⟩, HS2.out⟩
        | succ g2 =>
            have j1 : (j : Int) < (len : Int) := by omega
            have ij : ((j : Int)).toNat = j := by omega
            obtain ⟨d, hd⟩ : ∃ d, (cand n)[j]? = some d := ⟨_, List.getElem?_eq_getElem (by have := HL.out n; omega)⟩
            obtain ⟨d1, d2⟩ := d
            have HH := fun W => shold_is (c := c) HVD.out.1 HVD.out.2 (HV.out n hn (by omega) _ (List.mem_of_getElem? hd)) W
            have HFD : Hid (((cand n).drop j).find? (hdB c s p t q) = if hdB c s p t q (d1, d2) then some (d1, d2) else ((cand n).drop (j + 1)).find? (hdB c s p t q)) := find_drop (hb := hdB c s p t q) hd
            have F80 := HB
            have hdl := HB.out.2.2.2.1.lt
            obtain ⟨ca, cb, cc⟩ := HB.out.2.2.2.1.cell j _ hd
            dsimp only at ca cb cc HH
            clear HB hd
            have lt0_4 := (F80.out.1).lt
            have lt1_4 := (F80.out.2.1).lt
            have lt2_4 := (F80.out.2.2.1).lt
            have lt3_4 := (F80.out.2.2.2.1).lt
            have le4 := (F80.out.2.2.2.2).size
            have F81 : Hid (Bk (wr.alloc (.cells #[.string d1, .int .i64 d2, .bool false] 24)) (w.heap.size) [.string s, .int .i64 p, .bool false, .string t, .int .i64 q, .bool false, .bool c] ∧ Bk (wr.alloc (.cells #[.string d1, .int .i64 d2, .bool false] 24)) (w.heap.size + 1) [.string ⟨#[]⟩, .int .i64 0, .bool false] ∧ Bk (wr.alloc (.cells #[.string d1, .int .i64 d2, .bool false] 24)) (w.heap.size + 1 + 1) [.string ⟨#[]⟩, .int .i64 0, .bool false] ∧ DRow (wr.alloc (.cells #[.string d1, .int .i64 d2, .bool false] 24)) a (cand n) ∧ Bk (wr.alloc (.cells #[.string d1, .int .i64 d2, .bool false] 24)) (wr.heap.size) [.string d1, .int .i64 d2, .bool false] ∧ Below w.heap.size w (wr.alloc (.cells #[.string d1, .int .i64 d2, .bool false] 24))) := ⟨(F80.out.1).step ((Below.refl _ _).alloc (Nat.le_refl _) _), (F80.out.2.1).step ((Below.refl _ _).alloc (Nat.le_refl _) _), (F80.out.2.2.1).step ((Below.refl _ _).alloc (Nat.le_refl _) _), (F80.out.2.2.2.1).step ((Below.refl _ _).alloc (Nat.le_refl _) _), Bk.new3 wr (.string d1) (.int .i64 d2) (.bool false) 24, (F80.out.2.2.2.2).alloc ((F80.out.2.2.2.2).size) _⟩
            clear F80
            go_upto_region 9 with fail
            generalize (wr.alloc (.cells #[.string d1, .int .i64 d2, .bool false] 24)) = w41 at *
            clear ca cb cc
            have l1_0 := F81.out.1.lt
            have a1_0_0 := F81.out.1.cell 0 _ rfl
            have f1_0_0 := F81.out.1.fz 0
            have a1_0_1 := F81.out.1.cell 1 _ rfl
            have f1_0_1 := F81.out.1.fz 1
            have a1_0_2 := F81.out.1.cell 2 _ rfl
            have f1_0_2 := F81.out.1.fz 2
            have a1_0_3 := F81.out.1.cell 3 _ rfl
            have f1_0_3 := F81.out.1.fz 3
            have a1_0_4 := F81.out.1.cell 4 _ rfl
            have f1_0_4 := F81.out.1.fz 4
            have a1_0_5 := F81.out.1.cell 5 _ rfl
            have f1_0_5 := F81.out.1.fz 5
            have a1_0_6 := F81.out.1.cell 6 _ rfl
            have f1_0_6 := F81.out.1.fz 6
            have l1_1 := F81.out.2.1.lt
            have a1_1_0 := F81.out.2.1.cell 0 _ rfl
            have f1_1_0 := F81.out.2.1.fz 0
            have a1_1_1 := F81.out.2.1.cell 1 _ rfl
            have f1_1_1 := F81.out.2.1.fz 1
            have a1_1_2 := F81.out.2.1.cell 2 _ rfl
            have f1_1_2 := F81.out.2.1.fz 2
            have l1_2 := F81.out.2.2.1.lt
            have a1_2_0 := F81.out.2.2.1.cell 0 _ rfl
            have f1_2_0 := F81.out.2.2.1.fz 0
            have a1_2_1 := F81.out.2.2.1.cell 1 _ rfl
            have f1_2_1 := F81.out.2.2.1.fz 1
            have a1_2_2 := F81.out.2.2.1.cell 2 _ rfl
            have f1_2_2 := F81.out.2.2.1.fz 2
            have l1_4 := F81.out.2.2.2.2.1.lt
            have a1_4_0 := F81.out.2.2.2.2.1.cell 0 _ rfl
            have f1_4_0 := F81.out.2.2.2.2.1.fz 0
            have a1_4_1 := F81.out.2.2.2.2.1.cell 1 _ rfl
            have f1_4_1 := F81.out.2.2.2.2.1.fz 1
            have a1_4_2 := F81.out.2.2.2.2.1.cell 2 _ rfl
            have f1_4_2 := F81.out.2.2.2.2.1.fz 2
            have ne1_0_1 : ¬ w.heap.size = w.heap.size + 1 := by omega
            have ne1_0_2 : ¬ w.heap.size = w.heap.size + 1 + 1 := by omega
            have ne1_0_4 : ¬ w.heap.size = wr.heap.size := by omega
            have ne1_1_0 : ¬ w.heap.size + 1 = w.heap.size := by omega
            have ne1_1_2 : ¬ w.heap.size + 1 = w.heap.size + 1 + 1 := by omega
            have ne1_1_4 : ¬ w.heap.size + 1 = wr.heap.size := by omega
            have ne1_2_0 : ¬ w.heap.size + 1 + 1 = w.heap.size := by omega
            have ne1_2_1 : ¬ w.heap.size + 1 + 1 = w.heap.size + 1 := by omega
            have ne1_2_4 : ¬ w.heap.size + 1 + 1 = wr.heap.size := by omega
            have ne1_4_0 : ¬ wr.heap.size = w.heap.size := by omega
            have ne1_4_1 : ¬ wr.heap.size = w.heap.size + 1 := by omega
            have ne1_4_2 : ¬ wr.heap.size = w.heap.size + 1 + 1 := by omega
            go_wp2_with fail
            all_goals first | (exfalso; omega) | skip
            refine (HH _).mono ?_
            rintro o42 w42 ⟨rfl, bb⟩
            have F82 : Hid (Bk w42 (w.heap.size) [.string s, .int .i64 p, .bool false, .string t, .int .i64 q, .bool false, .bool c] ∧ Bk w42 (w.heap.size + 1) [.string ⟨#[]⟩, .int .i64 0, .bool false] ∧ Bk w42 (w.heap.size + 1 + 1) [.string ⟨#[]⟩, .int .i64 0, .bool false] ∧ DRow w42 a (cand n) ∧ Bk w42 (wr.heap.size) [.string d1, .int .i64 d2, .bool false] ∧ Below w.heap.size w w42) := ⟨(F81.out.1).step bb, (F81.out.2.1).step bb, (F81.out.2.2.1).step bb, (F81.out.2.2.2.1).step bb, (F81.out.2.2.2.2.1).step bb, (F81.out.2.2.2.2.2).trans (bb.mono (F81.out.2.2.2.2.2).size)⟩
            clear F81
            clear bb
            clear l1_0 a1_0_0 f1_0_0 a1_0_1 f1_0_1 a1_0_2 f1_0_2 a1_0_3 f1_0_3 a1_0_4 f1_0_4 a1_0_5 f1_0_5 a1_0_6 f1_0_6 l1_1 a1_1_0 f1_1_0 a1_1_1 f1_1_1 a1_1_2 f1_1_2 l1_2 a1_2_0 f1_2_0 a1_2_1 f1_2_1 a1_2_2 f1_2_2 l1_4 a1_4_0 f1_4_0 a1_4_1 f1_4_1 a1_4_2 f1_4_2
            generalize hdB c s p t q (d1, d2) = r at *
            cases r with
            | true =>
                have e : (cand n).find? (hdB c s p t q) = some (d1, d2) := by
                  rw [← HF.out, HFD.out]
                  rfl
                have e2 : R = some (d1, d2) := by
                  have := HS.out
                  unfold seekF at this
                  rw [e] at this
                  exact this.symm
                subst e2
                clear e HS
                have l2_0 := F82.out.1.lt
                have a2_0_0 := F82.out.1.cell 0 _ rfl
                have f2_0_0 := F82.out.1.fz 0
                have a2_0_1 := F82.out.1.cell 1 _ rfl
                have f2_0_1 := F82.out.1.fz 1
                have a2_0_2 := F82.out.1.cell 2 _ rfl
                have f2_0_2 := F82.out.1.fz 2
                have a2_0_3 := F82.out.1.cell 3 _ rfl
                have f2_0_3 := F82.out.1.fz 3
                have a2_0_4 := F82.out.1.cell 4 _ rfl
                have f2_0_4 := F82.out.1.fz 4
                have a2_0_5 := F82.out.1.cell 5 _ rfl
                have f2_0_5 := F82.out.1.fz 5
                have a2_0_6 := F82.out.1.cell 6 _ rfl
                have f2_0_6 := F82.out.1.fz 6
                have l2_1 := F82.out.2.1.lt
                have a2_1_0 := F82.out.2.1.cell 0 _ rfl
                have f2_1_0 := F82.out.2.1.fz 0
                have a2_1_1 := F82.out.2.1.cell 1 _ rfl
                have f2_1_1 := F82.out.2.1.fz 1
                have a2_1_2 := F82.out.2.1.cell 2 _ rfl
                have f2_1_2 := F82.out.2.1.fz 2
                have l2_2 := F82.out.2.2.1.lt
                have a2_2_0 := F82.out.2.2.1.cell 0 _ rfl
                have f2_2_0 := F82.out.2.2.1.fz 0
                have a2_2_1 := F82.out.2.2.1.cell 1 _ rfl
                have f2_2_1 := F82.out.2.2.1.fz 1
                have a2_2_2 := F82.out.2.2.1.cell 2 _ rfl
                have f2_2_2 := F82.out.2.2.1.fz 2
                have l2_4 := F82.out.2.2.2.2.1.lt
                have a2_4_0 := F82.out.2.2.2.2.1.cell 0 _ rfl
                have f2_4_0 := F82.out.2.2.2.2.1.fz 0
                have a2_4_1 := F82.out.2.2.2.2.1.cell 1 _ rfl
                have f2_4_1 := F82.out.2.2.2.2.1.fz 1
                have a2_4_2 := F82.out.2.2.2.2.1.cell 2 _ rfl
                have f2_4_2 := F82.out.2.2.2.2.1.fz 2
                have ne2_0_1 : ¬ w.heap.size = w.heap.size + 1 := by omega
                have ne2_0_2 : ¬ w.heap.size = w.heap.size + 1 + 1 := by omega
                have ne2_0_4 : ¬ w.heap.size = wr.heap.size := by omega
                have ne2_1_0 : ¬ w.heap.size + 1 = w.heap.size := by omega
                have ne2_1_2 : ¬ w.heap.size + 1 = w.heap.size + 1 + 1 := by omega
                have ne2_1_4 : ¬ w.heap.size + 1 = wr.heap.size := by omega
                have ne2_2_0 : ¬ w.heap.size + 1 + 1 = w.heap.size := by omega
                have ne2_2_1 : ¬ w.heap.size + 1 + 1 = w.heap.size + 1 := by omega
                have ne2_2_4 : ¬ w.heap.size + 1 + 1 = wr.heap.size := by omega
                have ne2_4_0 : ¬ wr.heap.size = w.heap.size := by omega
                have ne2_4_1 : ¬ wr.heap.size = w.heap.size + 1 := by omega
                have ne2_4_2 : ¬ wr.heap.size = w.heap.size + 1 + 1 := by omega
                go_wp2
                try rw [Exit.noGoto_ret]
                refine bodyPost_ret (v := .tuple #[.agg #[.string d1, .int .i64 d2, .bool false], .bool true]) (by simp [results, Tryz.results52, go_sem, World.cell?_setCell_same, World.cell?_setCell_other, *]) rfl ⟨rfl, ?_⟩
                repeat (first | refine Below.setCell ?_ (by first | exact Nat.le_refl _ | (dsimp only; omega)) _ | refine Below.alloc ?_ (by first | exact Nat.le_refl _ | omega | (simp; omega)) _ | refine Below.drew ?_)
                exact F82.out.2.2.2.2.2
            | false =>
                have HF2 : Hid (((cand n).drop (j + 1)).find? (hdB c s p t q) = (cand n).find? (hdB c s p t q)) := by
                  show _ = _
                  rw [← HF.out, HFD.out]
                  rfl
                clear HF HFD
                go_wp2
                go_roundg g2
                case measure => omega
                case rel => exact ⟨j + 1, rfl, by go_num, by omega, ⟨F82.out.1, F82.out.2.1, F82.out.2.2.1, F82.out.2.2.2.1, F82.out.2.2.2.2.2⟩, HF2.out⟩
structure BR (W : World) (g n : Nat) (F : Nat → Nat) : Prop where
 lt : g < W.heap.size
 row : BRow W g n F
theorem BR.set {W : World} {g n : Nat} {F : Nat → Nat} (h : BR W g n F) {i : Nat} (hi : i < n) (r : Nat) : BR (W.setCell ⟨g, i, none⟩ (.int .u8 (r : Int))) g n (putF F i r) :=
 ⟨by rw [World.size_setCell]; exact h.lt, h.row.set hi r⟩
theorem Bk.setC {W : World} {K : Nat} {l : List Value} (h : Bk W K l) {g : Nat} (hne : ¬ K = g) (i : Nat) (v : Value) : Bk (W.setCell ⟨g, i, none⟩ v) K l :=
 ⟨by rw [World.size_setCell]; exact h.lt, fun j x q => (World.cell?_setCell_other W ⟨g, i, none⟩ ⟨K, j, none⟩ v (by intro z; injection z with z _ _; exact hne z.symm)).trans (h.cell j x q), fun j => by rw [World.frozen?_setCell]; exact h.fz j⟩
theorem conv_row (U : World) (t : ByteArray) (hs : t.size ≤ 100000) : ∃ W1 C, (Go.convert 9 88 (.string t)).run Tryz.prog U = .ok (.slice (some ⟨U.heap.size, 0, none⟩) t.size C) W1 ∧ t.size ≤ C ∧ C ≤ maxLen ∧ Below U.heap.size U W1 ∧ BR W1 U.heap.size t.size (dgt t) := by
 have hL := Lib.run_convert_string_bytes (P := Tryz.prog) U 9 88 5 t und_str9b und_bytes48 und_u8b
 have bU : Below U.heap.size U (Lib.bytesWorld U 5 t) := ⟨rfl, rfl, rfl, by rw [Lib.bytesWorld_size]; omega, fun k hk => Lib.bytesWorld_at_old U 5 t k hk⟩
 refine ⟨Lib.bytesWorld U 5 t, grownCap U t.size 0 5, hL, grownCap_ge _ _ _ _, grownCap_le_maxLen _ _ _ _ (Nat.le_trans hs (by decide)), bU, ⟨by rw [Lib.bytesWorld_size]; omega, fun i hi => ?_, fun i hi => ?_⟩⟩
 · have q := Lib.bytesWorld_cell U 5 t i hi
   rw [getD_dgt hi] at q
   exact q
 · have q := Lib.bytesWorld_at_new U 5 t
   unfold World.frozen?
   rw [q]
   have z : ¬ (Lib.bytesCells U 5 t).size ≤ i := by
    unfold Lib.bytesCells
    simp
    omega
   simp [z]
theorem row_text {W : World} {g n C : Nat} {F : Nat → Nat} (h : BR W g n F) (hF : ∀ i, i < n → F i < 256) : ∃ u : ByteArray, u.size = n ∧ (∀ i, i < n → dgt u i = F i) ∧ ∀ W', (∀ i, i < n → W'.cell? ⟨g, i, none⟩ = W.cell? ⟨g, i, none⟩) → (Go.convert 88 9 (.slice (some ⟨g, 0, none⟩) n C)).run Tryz.prog W' = .ok (.string u) W' := by
 have hU := nums_dgt F n hF
 refine ⟨_, hU.1, hU.2, fun W' hW => ?_⟩
 refine run_convert_bytes_arg W' 88 5 und_bytes48 und_u8b g 0 n C _ (by simp) ?_ 9 und_str9b
 intro i hi
 have q := h.row.cell i hi
 rw [Nat.zero_add, hW i hi, q]
 simp [List.getD_eq_getElem?_getD, hi]
def zeroT (s : ByteArray) (i : Nat) : Nat := if i = 0 then 48 else dgt s (i - 1)
def incT (s : ByteArray) (k i : Nat) : Nat := if i < k then zeroT s i else if i = k then zeroT s k + 1 else 48
theorem dgt_zero_app {t s : ByteArray} {n : Nat} (h : t = ⟨#[48]⟩ ++ s.extract 0 n) (hn : n ≤ s.size) : t.size = n + 1 ∧ ∀ i, i < n + 1 → dgt t i = zeroT s i := by
 subst h
 have e := pre_size (s := s) (k := n) hn
 have e1 : (⟨#[48]⟩ : ByteArray).size = 1 := rfl
 have z : (⟨#[48]⟩ ++ s.extract 0 n : ByteArray).size = n + 1 := by rw [ByteArray.size_append, e, e1]; omega
 refine ⟨z, fun i hi => ?_⟩
 unfold zeroT
 by_cases c : i = 0
 · subst c
   rw [if_pos rfl, dgt_lt (by omega), ByteArray.getElem_append_left (by rw [e1]; omega)]
   rfl
 · rw [if_neg c, dgt_lt (by omega), ByteArray.getElem_append_right (by rw [e1]; omega)]
   rw [← pre_dgt (s := s) (k := n) hn (by omega), dgt_lt (by omega)]
   rfl
theorem Bk.fill3 {W : World} {K : Nat} {x y z : Value} (h : Bk W K [x, y, z]) (a b c : Value) : Bk (((W.setCell ⟨K, 0, none⟩ a).setCell ⟨K, 1, none⟩ b).setCell ⟨K, 2, none⟩ c) K [a, b, c] := by
 have c0 := h.cell 0 _ rfl
 have c1 := h.cell 1 _ rfl
 have c2 := h.cell 2 _ rfl
 have n01 : (⟨K, 1, none⟩ : Addr) ≠ ⟨K, 0, none⟩ := by intro q; injection q with _ q _; omega
 refine ⟨by rw [World.size_setCell, World.size_setCell, World.size_setCell]; exact h.lt, fun i v q => ?_, fun i => by rw [World.frozen?_setCell, World.frozen?_setCell, World.frozen?_setCell]; exact h.fz i⟩
 match i, q with
 | 0, q => cases q; simp [World.cell?_setCell_same, World.cell?_setCell_other, c0]
 | 1, q => cases q; simp [World.cell?_setCell_same, World.cell?_setCell_other, c1]
 | 2, q => cases q; simp [World.cell?_setCell_same, World.cell?_setCell_other, c2]
 | n + 3, q => simp at q
end Go.Proofs.YtblkokjkmbpejaaGreatDoor
