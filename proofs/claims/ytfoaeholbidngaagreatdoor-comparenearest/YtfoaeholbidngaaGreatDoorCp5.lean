/-
  What the program's calls of nat, dec, bits and round answer, as far as compare asks them.
-/
import Derived.Test.YtfoaeholbidngaaGreatDoorEx7
namespace Go.Proofs.YtfoaeholbidngaaGreatDoor
open Go.RowKit

set_option maxRecDepth 100000 in
set_option maxHeartbeats 1000000 in
theorem areDig_yes (s : ByteArray) (hs : s.size ≤ 9223372036854775807) (hd : DG s) (w : World) :
    Calls Tryz.prog 74 #[.string s] w fun e w' => e = .returned (.bool true) ∧ w' = w := by
  have HD : Hid (DG s) := hd
  clear hd
  go_enter Tryz.func74, Tryz.ntmps74
  go_wp2
  go_loop [6] (fun i => ∃ k : Nat, k ≤ s.size ∧ i = .int .i64 k) (fun i => s.size - (intOf i).toNat)
  case atStart => exact ⟨0, Nat.zero_le _, rfl⟩
  case round =>
    obtain ⟨k, hk, rfl⟩ := hrel
    by_cases hlt : k < s.size
    · obtain ⟨v1, v2⟩ := HD.out k hlt
      have v1' : ¬ ((s[k]'hlt).toNat : Int) < 48 := by omega
      have v2' : ¬ (57 : Int) < ((s[k]'hlt).toNat : Int) := by omega
      go_wp2
      go_round
      case rel => exact ⟨k + 1, by omega, by go_num⟩
      case measure => simp [intOf]; omega
    · go_wp2
      go_ret
      exact ⟨rfl, rfl⟩
set_option maxRecDepth 100000 in
set_option maxHeartbeats 1000000 in
theorem areDig_no (s : ByteArray) (hs : s.size ≤ 9223372036854775807) (hd : ¬ DG s) (w : World) :
    Calls Tryz.prog 74 #[.string s] w fun e w' => e = .returned (.bool false) ∧ w' = w := by
  have HN : Hid (¬ DG s) := hd
  clear hd
  go_enter Tryz.func74, Tryz.ntmps74
  go_wp2
  go_loop [6] (fun i => ∃ k : Nat, k ≤ s.size ∧ i = .int .i64 k ∧ Hid (∀ j (h : j < s.size), j < k → 48 ≤ (s[j]'h).toNat ∧ (s[j]'h).toNat ≤ 57)) (fun i => s.size - (intOf i).toNat)
  case atStart => exact ⟨0, Nat.zero_le _, rfl, fun j _ q => absurd q (by omega)⟩
  case round =>
    obtain ⟨k, hk, rfl, HD⟩ := hrel
    by_cases hlt : k < s.size
    · by_cases v1 : 48 ≤ (s[k]'hlt).toNat
      · have v1' : ¬ ((s[k]'hlt).toNat : Int) < 48 := by omega
        by_cases v2 : (s[k]'hlt).toNat ≤ 57
        · have v2' : ¬ (57 : Int) < ((s[k]'hlt).toNat : Int) := by omega
          have HD2 : Hid (∀ j (h : j < s.size), j < k + 1 → 48 ≤ (s[j]'h).toNat ∧ (s[j]'h).toNat ≤ 57) := fun j h q => by
            by_cases z : j = k
            · subst z; exact ⟨v1, v2⟩
            · exact HD.out j h (by omega)
          go_wp2
          go_round
          case rel => exact ⟨k + 1, by omega, by go_num, HD2⟩
          case measure => simp [intOf]; omega
        · have v2' : (57 : Int) < ((s[k]'hlt).toNat : Int) := by omega
          go_wp2
          go_ret
          exact ⟨rfl, rfl⟩
      · have v1' : ((s[k]'hlt).toNat : Int) < 48 := by omega
        go_wp2
        go_ret
        exact ⟨rfl, rfl⟩
    · exact absurd (fun j h => HD.out j h (by omega)) HN.out
set_option maxRecDepth 100000 in
set_option maxHeartbeats 1000000 in
theorem dvalid_yes {s : ByteArray} {p : Int} {c : Bool} (h : VD s p c) (w : World) :
    Calls Tryz.prog 40 #[dcV s p c] w fun e w' => e = .returned .nilIface ∧ Below w.heap.size w w' := by
  unfold dcV
  rcases h with ⟨h1, rfl, rfl⟩ | h
  · obtain rfl := size_zero h1
    go_enter Tryz.func40, Tryz.ntmps40
    go_wp2
    go_ret
    exact ⟨rfl, (Below.refl _ _).alloc (Nat.le_refl _) _⟩
  · have p1 := h.pos
    have hE := empty_false p1
    have hl1 : s.size - 1 < s.size := by omega
    have AD := fun W => areDig_yes s (by have := h.len; omega) h.dg W
    have l1 := h.len
    have f1 : ((((s[0]'p1).toNat : Nat) : Int) == 48) = false := beq_eq_false_iff_ne.mpr (by have := h.first; omega)
    have n1 : ((s.size : Int) == 0) = false := beq_eq_false_iff_ne.mpr (by omega)
    have p2 := h.lo
    have p3 := h.hi
    have p2' : ¬ p < -1099511627776 := by omega
    have p3' : ¬ 1099511627776 < p := by omega
    have l2 : ¬ (800 : Int) < (s.size : Int) := by omega
    have ix : ((s.size : Int) - 1).toNat = s.size - 1 := by omega
    by_cases g1 : (s[s.size - 1]'hl1).toNat = 48
    · obtain rfl : c = true := h.last.resolve_left (fun q => q g1)
      have g2 : ((((s[s.size - 1]'hl1).toNat : Nat) : Int) == 48) = true := beq_iff_eq.mpr (by omega)
      clear h g1
      go_enter Tryz.func40, Tryz.ntmps40
      go_wp2_with fail
      refine (AD _).mono ?_
      rintro e w1 ⟨rfl, rfl⟩
      go_wp2
      go_ret
      exact ⟨rfl, (Below.refl _ _).alloc (Nat.le_refl _) _⟩
    · have g2 : ((((s[s.size - 1]'hl1).toNat : Nat) : Int) == 48) = false := beq_eq_false_iff_ne.mpr (by omega)
      clear h g1
      go_enter Tryz.func40, Tryz.ntmps40
      go_wp2_with fail
      refine (AD _).mono ?_
      rintro e w1 ⟨rfl, rfl⟩
      go_wp2
      go_ret
      exact ⟨rfl, (Below.refl _ _).alloc (Nat.le_refl _) _⟩
set_option maxRecDepth 100000 in
set_option maxHeartbeats 2000000 in
theorem dvalid_no {s : ByteArray} {p : Int} {c : Bool} (hs : s.size ≤ 9223372036854775807) (h : ¬ VD s p c) (w : World) :
    Calls Tryz.prog 40 #[dcV s p c] w fun e w' => e = .returned (.iface 74 (.int .i64 1)) ∧ Below w.heap.size w w' := by
  unfold dcV
  rcases not_vd h with ⟨h1, h2⟩ | h1 | ⟨h0, h1, h2⟩ | ⟨h0, h1, h2, h3⟩ | ⟨h0, h1, h2, h3, h4⟩
  · obtain rfl := size_zero h1
    clear h
    rcases h2 with h2 | rfl
    · have h2' : (p == 0) = false := beq_eq_false_iff_ne.mpr h2
      go_enter Tryz.func40, Tryz.ntmps40
      go_wp2
      go_ret
      exact ⟨rfl, (Below.refl _ _).alloc (Nat.le_refl _) _⟩
    · go_enter Tryz.func40, Tryz.ntmps40
      go_wp2
      all_goals
        go_ret
        exact ⟨rfl, (Below.refl _ _).alloc (Nat.le_refl _) _⟩
  · have hl1 : s.size - 1 < s.size := by omega
    have hE := empty_false (s := s) (by omega)
    have n1 : ((s.size : Int) == 0) = false := beq_eq_false_iff_ne.mpr (by omega)
    have l2 : (800 : Int) < (s.size : Int) := by omega
    clear h
    go_enter Tryz.func40, Tryz.ntmps40
    go_wp2
    go_ret
    exact ⟨rfl, (Below.refl _ _).alloc (Nat.le_refl _) _⟩
  · have hl1 : s.size - 1 < s.size := by omega
    have hE := empty_false (s := s) (by omega)
    have n1 : ((s.size : Int) == 0) = false := beq_eq_false_iff_ne.mpr (by omega)
    have l2 : ¬ (800 : Int) < (s.size : Int) := by omega
    have AD := fun W => areDig_no s hs h2 W
    clear h h2
    go_enter Tryz.func40, Tryz.ntmps40
    go_wp2_with fail
    refine (AD _).mono ?_
    rintro e w1 ⟨rfl, rfl⟩
    go_wp2
    go_ret
    exact ⟨rfl, (Below.refl _ _).alloc (Nat.le_refl _) _⟩
  · have hl1 : s.size - 1 < s.size := by omega
    have hE := empty_false (s := s) (by omega)
    have n1 : ((s.size : Int) == 0) = false := beq_eq_false_iff_ne.mpr (by omega)
    have l2 : ¬ (800 : Int) < (s.size : Int) := by omega
    have f1 : ((((s[0]'h0).toNat : Nat) : Int) == 48) = true := beq_iff_eq.mpr (by omega)
    have AD := fun W => areDig_yes s hs h2 W
    clear h h2 h3
    go_enter Tryz.func40, Tryz.ntmps40
    go_wp2_with fail
    refine (AD _).mono ?_
    rintro e w1 ⟨rfl, rfl⟩
    go_wp2
    go_ret
    exact ⟨rfl, (Below.refl _ _).alloc (Nat.le_refl _) _⟩
  · have hl1 : s.size - 1 < s.size := by omega
    have hE := empty_false (s := s) (by omega)
    have n1 : ((s.size : Int) == 0) = false := beq_eq_false_iff_ne.mpr (by omega)
    have l2 : ¬ (800 : Int) < (s.size : Int) := by omega
    have f1 : ((((s[0]'h0).toNat : Nat) : Int) == 48) = false := beq_eq_false_iff_ne.mpr (by omega)
    have ix : ((s.size : Int) - 1).toNat = s.size - 1 := by omega
    have AD := fun W => areDig_yes s hs h2 W
    clear h h2 h3
    rcases h4 with ⟨g1, rfl⟩ | ⟨g1, g3⟩
    · have g2 : ((((s[s.size - 1]'hl1).toNat : Nat) : Int) == 48) = true := beq_iff_eq.mpr (by omega)
      clear g1
      go_enter Tryz.func40, Tryz.ntmps40
      go_wp2_with fail
      refine (AD _).mono ?_
      rintro e w1 ⟨rfl, rfl⟩
      go_wp2
      go_ret
      exact ⟨rfl, (Below.refl _ _).alloc (Nat.le_refl _) _⟩
    · by_cases g4 : (s[s.size - 1]'hl1).toNat = 48
      · obtain rfl : c = true := g1.resolve_left (fun q => q g4)
        have g2 : ((((s[s.size - 1]'hl1).toNat : Nat) : Int) == 48) = true := beq_iff_eq.mpr (by omega)
        clear g1 g4
        rcases g3 with g3 | g3
        · go_enter Tryz.func40, Tryz.ntmps40
          go_wp2_with fail
          refine (AD _).mono ?_
          rintro e w1 ⟨rfl, rfl⟩
          go_wp2
          go_ret
          exact ⟨rfl, (Below.refl _ _).alloc (Nat.le_refl _) _⟩
        · have g5 : ¬ p < -1099511627776 := by omega
          go_enter Tryz.func40, Tryz.ntmps40
          go_wp2_with fail
          refine (AD _).mono ?_
          rintro e w1 ⟨rfl, rfl⟩
          go_wp2
          go_ret
          exact ⟨rfl, (Below.refl _ _).alloc (Nat.le_refl _) _⟩
      · have g2 : ((((s[s.size - 1]'hl1).toNat : Nat) : Int) == 48) = false := beq_eq_false_iff_ne.mpr (by omega)
        clear g1 g4
        rcases g3 with g3 | g3
        · go_enter Tryz.func40, Tryz.ntmps40
          go_wp2_with fail
          refine (AD _).mono ?_
          rintro e w1 ⟨rfl, rfl⟩
          go_wp2
          go_ret
          exact ⟨rfl, (Below.refl _ _).alloc (Nat.le_refl _) _⟩
        · have g5 : ¬ p < -1099511627776 := by omega
          go_enter Tryz.func40, Tryz.ntmps40
          go_wp2_with fail
          refine (AD _).mono ?_
          rintro e w1 ⟨rfl, rfl⟩
          go_wp2
          go_ret
          exact ⟨rfl, (Below.refl _ _).alloc (Nat.le_refl _) _⟩
end Go.Proofs.YtfoaeholbidngaaGreatDoor
