/-
  Holds: VDecA.
-/
import Derived.Test.YtblkokjkmbpejaaGreatDoorRows
import Derived.Laws.Externs
import Derived.WalkKit
import Derived.WalkSpells
import Derived.WalkLawsBesides
import Derived.Lib.Mul64
import Derived.Stop.Asserts
import Derived.RowKitTokens
import Derived.Test.YtblkokjkmbpejaaGreatDoorKd0
set_option maxRecDepth 100000
set_option maxHeartbeats 4000000
namespace Go.Proofs.YtblkokjkmbpejaaGreatDoor
open Go.RowKit
def DG (s : ByteArray) : Prop := ∀ k (h : k < s.size), 48 ≤ (s[k]'h).toNat ∧ (s[k]'h).toNat ≤ 57
structure VN (s : ByteArray) (p : Int) (c : Bool) : Prop where
 pos : 0 < s.size
 len : s.size ≤ 800
 dg : DG s
 first : (s[0]'pos).toNat ≠ 48
 last : (s[s.size - 1]'(by omega)).toNat ≠ 48 ∨ c = true
 lo : -1099511627776 ≤ p
 hi : p ≤ 1099511627776
def VD (s : ByteArray) (p : Int) (c : Bool) : Prop := (s.size = 0 ∧ p = 0 ∧ c = false) ∨ VN s p c
def dcV (s : ByteArray) (p : Int) (c : Bool) : Value := .agg #[.string s, .int .i64 p, .bool c]
theorem list_data (s : ByteArray) : s.toList = s.data.toList := by
  have go : ∀ (n i : Nat) (r : List UInt8), n = s.size - i → ByteArray.toList.loop s i r = r.reverse ++ s.data.toList.drop i := by
    intro n
    induction n with
    | zero =>
      intro i r h
      rw [ByteArray.toList.loop, if_neg (by omega), List.drop_eq_nil_of_le (by simpa using (show s.size ≤ i by omega))]
      simp
    | succ n ih =>
      intro i r h
      have hi : i < s.size := by omega
      have hl : i < s.data.toList.length := by simpa using hi
      rw [ByteArray.toList.loop, if_pos hi, ih (i + 1) _ (by omega), List.drop_eq_getElem_cons hl, List.reverse_cons, List.append_assoc]
      congr 1
      simp only [List.singleton_append, List.cons.injEq, and_true]
      simp [ByteArray.get!, hi]
  show ByteArray.toList.loop s 0 [] = _
  simpa using go s.size 0 [] (by omega)
theorem empty_false {s : ByteArray} (h : 0 < s.size) : s.toList.isEmpty = false := by
 rw [list_data]
 cases q : s.data.toList with
 | nil => exact absurd (show s.size = 0 by have := congrArg List.length q; simpa using this) (by omega)
 | cons a r => rfl
theorem size_zero {s : ByteArray} (h : s.size = 0) : s = ⟨#[]⟩ := by
  cases s with
  | mk a =>
    have : a = #[] := Array.eq_empty_of_size_eq_zero h
    rw [this]
theorem areDig_yes (s : ByteArray) (hs : s.size ≤ 9223372036854775807) (hd : DG s) (w : World) :
 Calls Tryz.prog 92 #[.string s] w fun e w' => e = .returned (.bool true) ∧ w' = w := by
 have HD : Hid (DG s) := hd
 clear hd
 go_enter Tryz.func92, Tryz.ntmps92
 go_wp2
 go_loop [6] (fun i => ∃ k : Nat, k ≤ s.size ∧ i = .int .i64 k) (fun i => s.size - (intOf i).toNat)
 case atStart => exact ⟨0, Nat.zero_le _, rfl⟩
 case round =>
  obtain ⟨k, hk, rfl⟩ := hrel
  by_cases hlt : k < s.size
  · obtain ⟨v1, v2⟩ := HD.out k hlt
    have v1' : ¬ ((s[k]'hlt).toNat : Int) < 48 := by omega
    have v2' : ¬ (57 : Int) < ((s[k]'hlt).toNat : Int) := by omega
    go_wp2
    go_round
    case rel => exact ⟨k + 1, by omega, by go_num⟩
    case measure => simp [intOf]; omega
  · go_wp2
    go_ret
    exact ⟨rfl, rfl⟩
theorem areDig_no (s : ByteArray) (hs : s.size ≤ 9223372036854775807) (hd : ¬ DG s) (w : World) :
 Calls Tryz.prog 92 #[.string s] w fun e w' => e = .returned (.bool false) ∧ w' = w := by
 have HN : Hid (¬ DG s) := hd
 clear hd
 go_enter Tryz.func92, Tryz.ntmps92
 go_wp2
 go_loop [6] (fun i => ∃ k : Nat, k ≤ s.size ∧ i = .int .i64 k ∧ Hid (∀ j (h : j < s.size), j < k → 48 ≤ (s[j]'h).toNat ∧ (s[j]'h).toNat ≤ 57)) (fun i => s.size - (intOf i).toNat)
 case atStart => exact ⟨0, Nat.zero_le _, rfl, fun j _ q => absurd q (by omega)⟩
 case round =>
  obtain ⟨k, hk, rfl, HD⟩ := hrel
  by_cases hlt : k < s.size
  · by_cases v1 : 48 ≤ (s[k]'hlt).toNat
    · have v1' : ¬ ((s[k]'hlt).toNat : Int) < 48 := by omega
      by_cases v2 : (s[k]'hlt).toNat ≤ 57
      · have v2' : ¬ (57 : Int) < ((s[k]'hlt).toNat : Int) := by omega
        have HD2 : Hid (∀ j (h : j < s.size), j < k + 1 → 48 ≤ (s[j]'h).toNat ∧ (s[j]'h).toNat ≤ 57) := fun j h q => by
         by_cases z : j = k
         · subst z; exact ⟨v1, v2⟩
         · exact HD.out j h (by omega)
        go_wp2
        go_round
        case rel => exact ⟨k + 1, by omega, by go_num, HD2⟩
        case measure => simp [intOf]; omega
      · have v2' : (57 : Int) < ((s[k]'hlt).toNat : Int) := by omega
        go_wp2
        go_ret
        exact ⟨rfl, rfl⟩
    · have v1' : ((s[k]'hlt).toNat : Int) < 48 := by omega
      go_wp2
      go_ret
      exact ⟨rfl, rfl⟩
  · exact absurd (fun j h => HD.out j h (by omega)) HN.out
theorem dvalid_yes {s : ByteArray} {p : Int} {c : Bool} (h : VD s p c) (w : World) :
 Calls Tryz.prog 58 #[dcV s p c] w fun e w' => e = .returned .nilIface ∧ Below w.heap.size w w' := by
 unfold dcV
 rcases h with ⟨h1, rfl, rfl⟩ | h
 · obtain rfl := size_zero h1
   go_enter Tryz.func58, Tryz.ntmps58
   go_wp2
   go_ret
   exact ⟨rfl, (Below.refl _ _).alloc (Nat.le_refl _) _⟩
 · have p1 := h.pos
   have hE := empty_false p1
   have hl1 : s.size - 1 < s.size := by omega
   have AD := fun W => areDig_yes s (by have := h.len; omega) h.dg W
   have l1 := h.len
   have f1 : ((((s[0]'p1).toNat : Nat) : Int) == 48) = false := beq_eq_false_iff_ne.mpr (by have := h.first; omega)
   have n1 : ((s.size : Int) == 0) = false := beq_eq_false_iff_ne.mpr (by omega)
   have p2 := h.lo
   have p3 := h.hi
   have p2' : ¬ p < -1099511627776 := by omega
   have p3' : ¬ 1099511627776 < p := by omega
   have l2 : ¬ (800 : Int) < (s.size : Int) := by omega
   have ix : ((s.size : Int) - 1).toNat = s.size - 1 := by omega
   by_cases g1 : (s[s.size - 1]'hl1).toNat = 48
   · obtain rfl : c = true := h.last.resolve_left (fun q => q g1)
     have g2 : ((((s[s.size - 1]'hl1).toNat : Nat) : Int) == 48) = true := beq_iff_eq.mpr (by omega)
     clear h g1
     go_enter Tryz.func58, Tryz.ntmps58
     go_wp2_with fail
     refine (AD _).mono ?_
     rintro e w1 ⟨rfl, rfl⟩
     go_wp2
     go_ret
     exact ⟨rfl, (Below.refl _ _).alloc (Nat.le_refl _) _⟩
   · have g2 : ((((s[s.size - 1]'hl1).toNat : Nat) : Int) == 48) = false := beq_eq_false_iff_ne.mpr (by omega)
     clear h g1
     go_enter Tryz.func58, Tryz.ntmps58
     go_wp2_with fail
     refine (AD _).mono ?_
     rintro e w1 ⟨rfl, rfl⟩
     go_wp2
     go_ret
     exact ⟨rfl, (Below.refl _ _).alloc (Nat.le_refl _) _⟩
theorem not_vd {s : ByteArray} {p : Int} {c : Bool} (h : ¬ VD s p c) : (s.size = 0 ∧ (p ≠ 0 ∨ c = true)) ∨ 800 < s.size ∨ (0 < s.size ∧ s.size ≤ 800 ∧ ¬ DG s) ∨ (∃ q : 0 < s.size, s.size ≤ 800 ∧ DG s ∧ (s[0]'q).toNat = 48) ∨
 (∃ q : 0 < s.size, s.size ≤ 800 ∧ DG s ∧ (s[0]'q).toNat ≠ 48 ∧ (((s[s.size - 1]'(by omega)).toNat = 48 ∧ c = false) ∨ (((s[s.size - 1]'(by omega)).toNat ≠ 48 ∨ c = true) ∧ (p < -1099511627776 ∨ 1099511627776 < p)))) := by
 by_cases h0 : s.size = 0
 · left
   refine ⟨h0, ?_⟩
   by_cases hp : p = 0
   · right
     cases c
     · exact absurd (Or.inl ⟨h0, hp, rfl⟩) h
     · rfl
   · exact Or.inl hp
 · right
   by_cases h1 : 800 < s.size
   · exact Or.inl h1
   · right
     by_cases h2 : DG s
     · right
       have q : 0 < s.size := by omega
       by_cases h3 : (s[0]'q).toNat = 48
       · exact Or.inl ⟨q, by omega, h2, h3⟩
       · right
         refine ⟨q, by omega, h2, h3, ?_⟩
         by_cases h4 : (s[s.size - 1]'(by omega)).toNat ≠ 48 ∨ c = true
         · right
           refine ⟨h4, ?_⟩
           by_cases h5 : p < -1099511627776
           · exact Or.inl h5
           · right
             by_cases h6 : 1099511627776 < p
             · exact h6
             · exact absurd (Or.inr ⟨q, by omega, h2, h3, h4, by omega, by omega⟩) h
         · left
           refine ⟨Decidable.byContradiction fun z => h4 (Or.inl z), ?_⟩
           cases c
           · rfl
           · exact absurd (Or.inr rfl) h4
     · exact Or.inl ⟨by omega, by omega, h2⟩
theorem dvalid_no {s : ByteArray} {p : Int} {c : Bool} (hs : s.size ≤ 9223372036854775807) (h : ¬ VD s p c) (w : World) :
 Calls Tryz.prog 58 #[dcV s p c] w fun e w' => e = .returned (.iface 69 (.int .i64 1)) ∧ Below w.heap.size w w' := by
 unfold dcV
 rcases not_vd h with ⟨h1, h2⟩ | h1 | ⟨h0, h1, h2⟩ | ⟨h0, h1, h2, h3⟩ | ⟨h0, h1, h2, h3, h4⟩
 · obtain rfl := size_zero h1
   clear h
   rcases h2 with h2 | rfl
   · have h2' : (p == 0) = false := beq_eq_false_iff_ne.mpr h2
     go_enter Tryz.func58, Tryz.ntmps58
     go_wp2
     go_ret
     exact ⟨rfl, (Below.refl _ _).alloc (Nat.le_refl _) _⟩
   · go_enter Tryz.func58, Tryz.ntmps58
     go_wp2
     all_goals
      go_ret
      exact ⟨rfl, (Below.refl _ _).alloc (Nat.le_refl _) _⟩
 · have hl1 : s.size - 1 < s.size := by omega
   have hE := empty_false (s := s) (by omega)
   have n1 : ((s.size : Int) == 0) = false := beq_eq_false_iff_ne.mpr (by omega)
   have l2 : (800 : Int) < (s.size : Int) := by omega
   clear h
   go_enter Tryz.func58, Tryz.ntmps58
   go_wp2
   go_ret
   exact ⟨rfl, (Below.refl _ _).alloc (Nat.le_refl _) _⟩
 · have hl1 : s.size - 1 < s.size := by omega
   have hE := empty_false (s := s) (by omega)
   have n1 : ((s.size : Int) == 0) = false := beq_eq_false_iff_ne.mpr (by omega)
   have l2 : ¬ (800 : Int) < (s.size : Int) := by omega
   have AD := fun W => areDig_no s hs h2 W
   clear h h2
   go_enter Tryz.func58, Tryz.ntmps58
   go_wp2_with fail
   refine (AD _).mono ?_
   rintro e w1 ⟨rfl, rfl⟩
   go_wp2
   go_ret
   exact ⟨rfl, (Below.refl _ _).alloc (Nat.le_refl _) _⟩
 · have hl1 : s.size - 1 < s.size := by omega
   have hE := empty_false (s := s) (by omega)
   have n1 : ((s.size : Int) == 0) = false := beq_eq_false_iff_ne.mpr (by omega)
   have l2 : ¬ (800 : Int) < (s.size : Int) := by omega
   have f1 : ((((s[0]'h0).toNat : Nat) : Int) == 48) = true := beq_iff_eq.mpr (by omega)
   have AD := fun W => areDig_yes s hs h2 W
   clear h h2 h3
   go_enter Tryz.func58, Tryz.ntmps58
   go_wp2_with fail
   refine (AD _).mono ?_
   rintro e w1 ⟨rfl, rfl⟩
   go_wp2
   go_ret
   exact ⟨rfl, (Below.refl _ _).alloc (Nat.le_refl _) _⟩
 · have hl1 : s.size - 1 < s.size := by omega
   have hE := empty_false (s := s) (by omega)
   have n1 : ((s.size : Int) == 0) = false := beq_eq_false_iff_ne.mpr (by omega)
   have l2 : ¬ (800 : Int) < (s.size : Int) := by omega
   have f1 : ((((s[0]'h0).toNat : Nat) : Int) == 48) = false := beq_eq_false_iff_ne.mpr (by omega)
   have ix : ((s.size : Int) - 1).toNat = s.size - 1 := by omega
   have AD := fun W => areDig_yes s hs h2 W
   clear h h2 h3
   rcases h4 with ⟨g1, rfl⟩ | ⟨g1, g3⟩
   · have g2 : ((((s[s.size - 1]'hl1).toNat : Nat) : Int) == 48) = true := beq_iff_eq.mpr (by omega)
     clear g1
     go_enter Tryz.func58, Tryz.ntmps58
     go_wp2_with fail
     refine (AD _).mono ?_
     rintro e w1 ⟨rfl, rfl⟩
     go_wp2
     go_ret
     exact ⟨rfl, (Below.refl _ _).alloc (Nat.le_refl _) _⟩
   · by_cases g4 : (s[s.size - 1]'hl1).toNat = 48
     · obtain rfl : c = true := g1.resolve_left (fun q => q g4)
       have g2 : ((((s[s.size - 1]'hl1).toNat : Nat) : Int) == 48) = true := beq_iff_eq.mpr (by omega)
       clear g1 g4
       rcases g3 with g3 | g3
       · go_enter Tryz.func58, Tryz.ntmps58
         go_wp2_with fail
         refine (AD _).mono ?_
         rintro e w1 ⟨rfl, rfl⟩
         go_wp2
         go_ret
         exact ⟨rfl, (Below.refl _ _).alloc (Nat.le_refl _) _⟩
       · have g5 : ¬ p < -1099511627776 := by omega
         go_enter Tryz.func58, Tryz.ntmps58
         go_wp2_with fail
         refine (AD _).mono ?_
         rintro e w1 ⟨rfl, rfl⟩
         go_wp2
         go_ret
         exact ⟨rfl, (Below.refl _ _).alloc (Nat.le_refl _) _⟩
     · have g2 : ((((s[s.size - 1]'hl1).toNat : Nat) : Int) == 48) = false := beq_eq_false_iff_ne.mpr (by omega)
       clear g1 g4
       rcases g3 with g3 | g3
       · go_enter Tryz.func58, Tryz.ntmps58
         go_wp2_with fail
         refine (AD _).mono ?_
         rintro e w1 ⟨rfl, rfl⟩
         go_wp2
         go_ret
         exact ⟨rfl, (Below.refl _ _).alloc (Nat.le_refl _) _⟩
       · have g5 : ¬ p < -1099511627776 := by omega
         go_enter Tryz.func58, Tryz.ntmps58
         go_wp2_with fail
         refine (AD _).mono ?_
         rintro e w1 ⟨rfl, rfl⟩
         go_wp2
         go_ret
         exact ⟨rfl, (Below.refl _ _).alloc (Nat.le_refl _) _⟩
theorem rdig_yes (s : ByteArray) (hs : s.size ≤ 9223372036854775807) (hd : DG s) (w : World) :
 Calls Tryz.prog 40 #[.string s] w fun e w' => e = .returned (.bool true) ∧ w' = w := by
 have HD : Hid (DG s) := hd
 clear hd
 go_enter Tryz.func40, Tryz.ntmps40
 go_wp2
 go_loop [3] (fun i => ∃ k : Nat, k ≤ s.size ∧ i = .int .i64 k) (fun i => s.size - (intOf i).toNat)
 case atStart => exact ⟨0, Nat.zero_le _, rfl⟩
 case round =>
  obtain ⟨k, hk, rfl⟩ := hrel
  by_cases hlt : k < s.size
  · obtain ⟨v1, v2⟩ := HD.out k hlt
    have v1' : ¬ ((s[k]'hlt).toNat : Int) < 48 := by omega
    have v2' : ¬ (57 : Int) < ((s[k]'hlt).toNat : Int) := by omega
    go_wp2
    go_round
    case rel => exact ⟨k + 1, by omega, by go_num⟩
    case measure => simp [intOf]; omega
  · go_wp2
    go_ret
    exact ⟨rfl, rfl⟩
theorem rdig_no (s : ByteArray) (hs : s.size ≤ 9223372036854775807) (hd : ¬ DG s) (w : World) :
 Calls Tryz.prog 40 #[.string s] w fun e w' => e = .returned (.bool false) ∧ w' = w := by
 have HN : Hid (¬ DG s) := hd
 clear hd
 go_enter Tryz.func40, Tryz.ntmps40
 go_wp2
 go_loop [3] (fun i => ∃ k : Nat, k ≤ s.size ∧ i = .int .i64 k ∧ Hid (∀ j (h : j < s.size), j < k → 48 ≤ (s[j]'h).toNat ∧ (s[j]'h).toNat ≤ 57)) (fun i => s.size - (intOf i).toNat)
 case atStart => exact ⟨0, Nat.zero_le _, rfl, fun j _ q => absurd q (by omega)⟩
 case round =>
  obtain ⟨k, hk, rfl, HD⟩ := hrel
  by_cases hlt : k < s.size
  · by_cases v1 : 48 ≤ (s[k]'hlt).toNat
    · have v1' : ¬ ((s[k]'hlt).toNat : Int) < 48 := by omega
      by_cases v2 : (s[k]'hlt).toNat ≤ 57
      · have v2' : ¬ (57 : Int) < ((s[k]'hlt).toNat : Int) := by omega
        have HD2 : Hid (∀ j (h : j < s.size), j < k + 1 → 48 ≤ (s[j]'h).toNat ∧ (s[j]'h).toNat ≤ 57) := fun j h q => by
         by_cases z : j = k
         · subst z; exact ⟨v1, v2⟩
         · exact HD.out j h (by omega)
        go_wp2
        go_round
        case rel => exact ⟨k + 1, by omega, by go_num, HD2⟩
        case measure => simp [intOf]; omega
      · have v2' : (57 : Int) < ((s[k]'hlt).toNat : Int) := by omega
        go_wp2
        go_ret
        exact ⟨rfl, rfl⟩
    · have v1' : ((s[k]'hlt).toNat : Int) < 48 := by omega
      go_wp2
      go_ret
      exact ⟨rfl, rfl⟩
  · exact absurd (fun j h => HD.out j h (by omega)) HN.out
theorem rvald_yes {s : ByteArray} {p : Int} {c : Bool} (h : VD s p c) (w : World) :
 Calls Tryz.prog 19 #[dcV s p c] w fun e w' => e = .returned (.int .i64 0) ∧ Below w.heap.size w w' := by
 unfold dcV
 rcases h with ⟨h1, rfl, rfl⟩ | h
 · obtain rfl := size_zero h1
   go_enter Tryz.func19, Tryz.ntmps19
   go_wp2
   go_ret
   exact ⟨rfl, (Below.refl _ _).alloc (Nat.le_refl _) _⟩
 · have p1 := h.pos
   have hE := empty_false p1
   have hl1 : s.size - 1 < s.size := by omega
   have AD := fun W => rdig_yes s (by have := h.len; omega) h.dg W
   have l1 := h.len
   have f1 : ((((s[0]'p1).toNat : Nat) : Int) == 48) = false := beq_eq_false_iff_ne.mpr (by have := h.first; omega)
   have n1 : ((s.size : Int) == 0) = false := beq_eq_false_iff_ne.mpr (by omega)
   have p2 := h.lo
   have p3 := h.hi
   have p2' : ¬ p < -1099511627776 := by omega
   have p3' : ¬ 1099511627776 < p := by omega
   have l2 : ¬ (800 : Int) < (s.size : Int) := by omega
   have ix : ((s.size : Int) - 1).toNat = s.size - 1 := by omega
   by_cases g1 : (s[s.size - 1]'hl1).toNat = 48
   · obtain rfl : c = true := h.last.resolve_left (fun q => q g1)
     have g2 : ((((s[s.size - 1]'hl1).toNat : Nat) : Int) == 48) = true := beq_iff_eq.mpr (by omega)
     clear h g1
     go_enter Tryz.func19, Tryz.ntmps19
     go_wp2_with fail
     refine (AD _).mono ?_
     rintro e w1 ⟨rfl, rfl⟩
     go_wp2
     go_ret
     exact ⟨rfl, (Below.refl _ _).alloc (Nat.le_refl _) _⟩
   · have g2 : ((((s[s.size - 1]'hl1).toNat : Nat) : Int) == 48) = false := beq_eq_false_iff_ne.mpr (by omega)
     clear h g1
     go_enter Tryz.func19, Tryz.ntmps19
     go_wp2_with fail
     refine (AD _).mono ?_
     rintro e w1 ⟨rfl, rfl⟩
     go_wp2
     go_ret
     exact ⟨rfl, (Below.refl _ _).alloc (Nat.le_refl _) _⟩
theorem rvald_no {s : ByteArray} {p : Int} {c : Bool} (hs : s.size ≤ 9223372036854775807) (h : ¬ VD s p c) (w : World) :
 Calls Tryz.prog 19 #[dcV s p c] w fun e w' => e = .returned (.int .i64 1) ∧ Below w.heap.size w w' := by
 unfold dcV
 rcases not_vd h with ⟨h1, h2⟩ | h1 | ⟨h0, h1, h2⟩ | ⟨h0, h1, h2, h3⟩ | ⟨h0, h1, h2, h3, h4⟩
 · obtain rfl := size_zero h1
   clear h
   rcases h2 with h2 | rfl
   · have h2' : (p == 0) = false := beq_eq_false_iff_ne.mpr h2
     go_enter Tryz.func19, Tryz.ntmps19
     go_wp2
     go_ret
     exact ⟨rfl, (Below.refl _ _).alloc (Nat.le_refl _) _⟩
   · go_enter Tryz.func19, Tryz.ntmps19
     go_wp2
     all_goals
      go_ret
      exact ⟨rfl, (Below.refl _ _).alloc (Nat.le_refl _) _⟩
 · have hl1 : s.size - 1 < s.size := by omega
   have hE := empty_false (s := s) (by omega)
   have n1 : ((s.size : Int) == 0) = false := beq_eq_false_iff_ne.mpr (by omega)
   have l2 : (800 : Int) < (s.size : Int) := by omega
   clear h
   go_enter Tryz.func19, Tryz.ntmps19
   go_wp2
   go_ret
   exact ⟨rfl, (Below.refl _ _).alloc (Nat.le_refl _) _⟩
 · have hl1 : s.size - 1 < s.size := by omega
   have hE := empty_false (s := s) (by omega)
   have n1 : ((s.size : Int) == 0) = false := beq_eq_false_iff_ne.mpr (by omega)
   have l2 : ¬ (800 : Int) < (s.size : Int) := by omega
   have AD := fun W => rdig_no s hs h2 W
   clear h h2
   go_enter Tryz.func19, Tryz.ntmps19
   go_wp2_with fail
   refine (AD _).mono ?_
   rintro e w1 ⟨rfl, rfl⟩
   go_wp2
   go_ret
   exact ⟨rfl, (Below.refl _ _).alloc (Nat.le_refl _) _⟩
 · have hl1 : s.size - 1 < s.size := by omega
   have hE := empty_false (s := s) (by omega)
   have n1 : ((s.size : Int) == 0) = false := beq_eq_false_iff_ne.mpr (by omega)
   have l2 : ¬ (800 : Int) < (s.size : Int) := by omega
   have f1 : ((((s[0]'h0).toNat : Nat) : Int) == 48) = true := beq_iff_eq.mpr (by omega)
   have AD := fun W => rdig_yes s hs h2 W
   clear h h2 h3
   go_enter Tryz.func19, Tryz.ntmps19
   go_wp2_with fail
   refine (AD _).mono ?_
   rintro e w1 ⟨rfl, rfl⟩
   go_wp2
   go_ret
   exact ⟨rfl, (Below.refl _ _).alloc (Nat.le_refl _) _⟩
 · have hl1 : s.size - 1 < s.size := by omega
   have hE := empty_false (s := s) (by omega)
   have n1 : ((s.size : Int) == 0) = false := beq_eq_false_iff_ne.mpr (by omega)
   have l2 : ¬ (800 : Int) < (s.size : Int) := by omega
   have f1 : ((((s[0]'h0).toNat : Nat) : Int) == 48) = false := beq_eq_false_iff_ne.mpr (by omega)
   have ix : ((s.size : Int) - 1).toNat = s.size - 1 := by omega
   have AD := fun W => rdig_yes s hs h2 W
   clear h h2 h3
   rcases h4 with ⟨g1, rfl⟩ | ⟨g1, g3⟩
   · have g2 : ((((s[s.size - 1]'hl1).toNat : Nat) : Int) == 48) = true := beq_iff_eq.mpr (by omega)
     clear g1
     go_enter Tryz.func19, Tryz.ntmps19
     go_wp2_with fail
     refine (AD _).mono ?_
     rintro e w1 ⟨rfl, rfl⟩
     go_wp2
     go_ret
     exact ⟨rfl, (Below.refl _ _).alloc (Nat.le_refl _) _⟩
   · by_cases g4 : (s[s.size - 1]'hl1).toNat = 48
     · obtain rfl : c = true := g1.resolve_left (fun q => q g4)
       have g2 : ((((s[s.size - 1]'hl1).toNat : Nat) : Int) == 48) = true := beq_iff_eq.mpr (by omega)
       clear g1 g4
       rcases g3 with g3 | g3
       · go_enter Tryz.func19, Tryz.ntmps19
         go_wp2_with fail
         refine (AD _).mono ?_
         rintro e w1 ⟨rfl, rfl⟩
         go_wp2
         go_ret
         exact ⟨rfl, (Below.refl _ _).alloc (Nat.le_refl _) _⟩
       · have g5 : ¬ p < -1099511627776 := by omega
         go_enter Tryz.func19, Tryz.ntmps19
         go_wp2_with fail
         refine (AD _).mono ?_
         rintro e w1 ⟨rfl, rfl⟩
         go_wp2
         go_ret
         exact ⟨rfl, (Below.refl _ _).alloc (Nat.le_refl _) _⟩
     · have g2 : ((((s[s.size - 1]'hl1).toNat : Nat) : Int) == 48) = false := beq_eq_false_iff_ne.mpr (by omega)
       clear g1 g4
       rcases g3 with g3 | g3
       · go_enter Tryz.func19, Tryz.ntmps19
         go_wp2_with fail
         refine (AD _).mono ?_
         rintro e w1 ⟨rfl, rfl⟩
         go_wp2
         go_ret
         exact ⟨rfl, (Below.refl _ _).alloc (Nat.le_refl _) _⟩
       · have g5 : ¬ p < -1099511627776 := by omega
         go_enter Tryz.func19, Tryz.ntmps19
         go_wp2_with fail
         refine (AD _).mono ?_
         rintro e w1 ⟨rfl, rfl⟩
         go_wp2
         go_ret
         exact ⟨rfl, (Below.refl _ _).alloc (Nat.le_refl _) _⟩
end Go.Proofs.YtblkokjkmbpejaaGreatDoor
