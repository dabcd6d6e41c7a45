/-
  The document's Valid of layer 3 at what is no number.
-/
import Derived.Test.YtfoaeholbidngaaGreatDoorEx5
import Derived.Laws.BitsAllLaws
import Derived.Lib.ItoaNum
import Derived.Laws.Externs
import Derived.WalkKit
import Derived.WalkSpells
import Derived.WalkLawsBesides
import Derived.Lib.Mul64
import Derived.Laws.Bits64b
import Derived.OwnWalk
import Derived.Lib.TrailingZeros
import Derived.Deep.OwnRows
import Derived.Laws.CopyOwn
import Derived.BigQuiet
import Derived.Deep.QuietTactic
import Derived.RegionTactic
import Derived.ChangeAlike
import Derived.BigRegion
import Derived.Deep.RegionHeld3
import Derived.Lib.SliceRun
import Derived.Deep.LoopGhost
import Derived.WalkMore
import Derived.Deep.RegionWith
import Derived.Deep.AppendLies
import Derived.Deep.DeepCutAuto
import Derived.LaidEql
import Derived.Stop.Asserts
import Derived.RowKitTokens
import Derived.Lib.Strings
import Derived.Lib.BufferWrite
import Derived.Lib.UnsafeStr
import Derived.Laws.MakeOwn
import Derived.Lib.ConvBytes
import Derived.Laws.AppendOwn
namespace Go.Proofs.YtfoaeholbidngaaGreatDoor
open Go.RowKit

/-- Why a number may not be. -/
theorem not_vd {s : ByteArray} {p : Int} {c : Bool} (h : ¬ VD s p c) : (s.size = 0 ∧ (p ≠ 0 ∨ c = true)) ∨ 800 < s.size ∨ (0 < s.size ∧ s.size ≤ 800 ∧ ¬ DG s) ∨ (∃ q : 0 < s.size, s.size ≤ 800 ∧ DG s ∧ (s[0]'q).toNat = 48) ∨
    (∃ q : 0 < s.size, s.size ≤ 800 ∧ DG s ∧ (s[0]'q).toNat ≠ 48 ∧ (((s[s.size - 1]'(by omega)).toNat = 48 ∧ c = false) ∨ (((s[s.size - 1]'(by omega)).toNat ≠ 48 ∨ c = true) ∧ (p < -1099511627776 ∨ 1099511627776 < p)))) := by
  by_cases h0 : s.size = 0
  · left
    refine ⟨h0, ?_⟩
    by_cases hp : p = 0
    · right
      cases c
      · exact absurd (Or.inl ⟨h0, hp, rfl⟩) h
      · rfl
    · exact Or.inl hp
  · right
    by_cases h1 : 800 < s.size
    · exact Or.inl h1
    · right
      by_cases h2 : DG s
      · right
        have q : 0 < s.size := by omega
        by_cases h3 : (s[0]'q).toNat = 48
        · exact Or.inl ⟨q, by omega, h2, h3⟩
        · right
          refine ⟨q, by omega, h2, h3, ?_⟩
          by_cases h4 : (s[s.size - 1]'(by omega)).toNat ≠ 48 ∨ c = true
          · right
            refine ⟨h4, ?_⟩
            by_cases h5 : p < -1099511627776
            · exact Or.inl h5
            · right
              by_cases h6 : 1099511627776 < p
              · exact h6
              · exact absurd (Or.inr ⟨q, by omega, h2, h3, h4, by omega, by omega⟩) h
          · left
            refine ⟨Decidable.byContradiction fun z => h4 (Or.inl z), ?_⟩
            cases c
            · rfl
            · exact absurd (Or.inr rfl) h4
      · exact Or.inl ⟨by omega, by omega, h2⟩
set_option maxRecDepth 100000 in
set_option maxHeartbeats 1000000 in
theorem rdig_no (s : ByteArray) (hs : s.size ≤ 9223372036854775807) (hd : ¬ DG s) (w : World) :
    Calls Tryz.prog 48 #[.string s] w fun e w' => e = .returned (.bool false) ∧ w' = w := by
  have HN : Hid (¬ DG s) := hd
  clear hd
  go_enter Tryz.func48, Tryz.ntmps48
  go_wp2
  go_loop [3] (fun i => ∃ k : Nat, k ≤ s.size ∧ i = .int .i64 k ∧ Hid (∀ j (h : j < s.size), j < k → 48 ≤ (s[j]'h).toNat ∧ (s[j]'h).toNat ≤ 57)) (fun i => s.size - (intOf i).toNat)
  case atStart => exact ⟨0, Nat.zero_le _, rfl, fun j _ q => absurd q (by omega)⟩
  case round =>
    obtain ⟨k, hk, rfl, HD⟩ := hrel
    by_cases hlt : k < s.size
    · by_cases v1 : 48 ≤ (s[k]'hlt).toNat
      · have v1' : ¬ ((s[k]'hlt).toNat : Int) < 48 := by omega
        by_cases v2 : (s[k]'hlt).toNat ≤ 57
        · have v2' : ¬ (57 : Int) < ((s[k]'hlt).toNat : Int) := by omega
          have HD2 : Hid (∀ j (h : j < s.size), j < k + 1 → 48 ≤ (s[j]'h).toNat ∧ (s[j]'h).toNat ≤ 57) := fun j h q => by
            by_cases z : j = k
            · subst z; exact ⟨v1, v2⟩
            · exact HD.out j h (by omega)
          go_wp2
          go_round
          case rel => exact ⟨k + 1, by omega, by go_num, HD2⟩
          case measure => simp [intOf]; omega
        · have v2' : (57 : Int) < ((s[k]'hlt).toNat : Int) := by omega
          go_wp2
          go_ret
          exact ⟨rfl, rfl⟩
      · have v1' : ((s[k]'hlt).toNat : Int) < 48 := by omega
        go_wp2
        go_ret
        exact ⟨rfl, rfl⟩
    · exact absurd (fun j h => HD.out j h (by omega)) HN.out
set_option maxRecDepth 100000 in
set_option maxHeartbeats 2000000 in
theorem rvald_no {s : ByteArray} {p : Int} {c : Bool} (hs : s.size ≤ 9223372036854775807) (h : ¬ VD s p c) (w : World) :
    Calls Tryz.prog 23 #[dcV s p c] w fun e w' => e = .returned (.int .i64 1) ∧ Below w.heap.size w w' := by
  unfold dcV
  rcases not_vd h with ⟨h1, h2⟩ | h1 | ⟨h0, h1, h2⟩ | ⟨h0, h1, h2, h3⟩ | ⟨h0, h1, h2, h3, h4⟩
  · obtain rfl := size_zero h1
    clear h
    rcases h2 with h2 | rfl
    · have h2' : (p == 0) = false := beq_eq_false_iff_ne.mpr h2
      go_enter Tryz.func23, Tryz.ntmps23
      go_wp2
      go_ret
      exact ⟨rfl, (Below.refl _ _).alloc (Nat.le_refl _) _⟩
    · go_enter Tryz.func23, Tryz.ntmps23
      go_wp2
      all_goals
        go_ret
        exact ⟨rfl, (Below.refl _ _).alloc (Nat.le_refl _) _⟩
  · have hl1 : s.size - 1 < s.size := by omega
    have hE := empty_false (s := s) (by omega)
    have n1 : ((s.size : Int) == 0) = false := beq_eq_false_iff_ne.mpr (by omega)
    have l2 : (800 : Int) < (s.size : Int) := by omega
    clear h
    go_enter Tryz.func23, Tryz.ntmps23
    go_wp2
    go_ret
    exact ⟨rfl, (Below.refl _ _).alloc (Nat.le_refl _) _⟩
  · have hl1 : s.size - 1 < s.size := by omega
    have hE := empty_false (s := s) (by omega)
    have n1 : ((s.size : Int) == 0) = false := beq_eq_false_iff_ne.mpr (by omega)
    have l2 : ¬ (800 : Int) < (s.size : Int) := by omega
    have AD := fun W => rdig_no s hs h2 W
    clear h h2
    go_enter Tryz.func23, Tryz.ntmps23
    go_wp2_with fail
    refine (AD _).mono ?_
    rintro e w1 ⟨rfl, rfl⟩
    go_wp2
    go_ret
    exact ⟨rfl, (Below.refl _ _).alloc (Nat.le_refl _) _⟩
  · have hl1 : s.size - 1 < s.size := by omega
    have hE := empty_false (s := s) (by omega)
    have n1 : ((s.size : Int) == 0) = false := beq_eq_false_iff_ne.mpr (by omega)
    have l2 : ¬ (800 : Int) < (s.size : Int) := by omega
    have f1 : ((((s[0]'h0).toNat : Nat) : Int) == 48) = true := beq_iff_eq.mpr (by omega)
    have AD := fun W => rdig_yes s hs h2 W
    clear h h2 h3
    go_enter Tryz.func23, Tryz.ntmps23
    go_wp2_with fail
    refine (AD _).mono ?_
    rintro e w1 ⟨rfl, rfl⟩
    go_wp2
    go_ret
    exact ⟨rfl, (Below.refl _ _).alloc (Nat.le_refl _) _⟩
  · have hl1 : s.size - 1 < s.size := by omega
    have hE := empty_false (s := s) (by omega)
    have n1 : ((s.size : Int) == 0) = false := beq_eq_false_iff_ne.mpr (by omega)
    have l2 : ¬ (800 : Int) < (s.size : Int) := by omega
    have f1 : ((((s[0]'h0).toNat : Nat) : Int) == 48) = false := beq_eq_false_iff_ne.mpr (by omega)
    have ix : ((s.size : Int) - 1).toNat = s.size - 1 := by omega
    have AD := fun W => rdig_yes s hs h2 W
    clear h h2 h3
    rcases h4 with ⟨g1, rfl⟩ | ⟨g1, g3⟩
    · have g2 : ((((s[s.size - 1]'hl1).toNat : Nat) : Int) == 48) = true := beq_iff_eq.mpr (by omega)
      clear g1
      go_enter Tryz.func23, Tryz.ntmps23
      go_wp2_with fail
      refine (AD _).mono ?_
      rintro e w1 ⟨rfl, rfl⟩
      go_wp2
      go_ret
      exact ⟨rfl, (Below.refl _ _).alloc (Nat.le_refl _) _⟩
    · by_cases g4 : (s[s.size - 1]'hl1).toNat = 48
      · obtain rfl : c = true := g1.resolve_left (fun q => q g4)
        have g2 : ((((s[s.size - 1]'hl1).toNat : Nat) : Int) == 48) = true := beq_iff_eq.mpr (by omega)
        clear g1 g4
        rcases g3 with g3 | g3
        · go_enter Tryz.func23, Tryz.ntmps23
          go_wp2_with fail
          refine (AD _).mono ?_
          rintro e w1 ⟨rfl, rfl⟩
          go_wp2
          go_ret
          exact ⟨rfl, (Below.refl _ _).alloc (Nat.le_refl _) _⟩
        · have g5 : ¬ p < -1099511627776 := by omega
          go_enter Tryz.func23, Tryz.ntmps23
          go_wp2_with fail
          refine (AD _).mono ?_
          rintro e w1 ⟨rfl, rfl⟩
          go_wp2
          go_ret
          exact ⟨rfl, (Below.refl _ _).alloc (Nat.le_refl _) _⟩
      · have g2 : ((((s[s.size - 1]'hl1).toNat : Nat) : Int) == 48) = false := beq_eq_false_iff_ne.mpr (by omega)
        clear g1 g4
        rcases g3 with g3 | g3
        · go_enter Tryz.func23, Tryz.ntmps23
          go_wp2_with fail
          refine (AD _).mono ?_
          rintro e w1 ⟨rfl, rfl⟩
          go_wp2
          go_ret
          exact ⟨rfl, (Below.refl _ _).alloc (Nat.le_refl _) _⟩
        · have g5 : ¬ p < -1099511627776 := by omega
          go_enter Tryz.func23, Tryz.ntmps23
          go_wp2_with fail
          refine (AD _).mono ?_
          rintro e w1 ⟨rfl, rfl⟩
          go_wp2
          go_ret
          exact ⟨rfl, (Below.refl _ _).alloc (Nat.le_refl _) _⟩
end Go.Proofs.YtfoaeholbidngaaGreatDoor
