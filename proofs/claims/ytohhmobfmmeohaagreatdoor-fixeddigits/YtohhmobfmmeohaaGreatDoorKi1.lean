/-
  Holds: VDecA.
-/
import Derived.Test.YtohhmobfmmeohaaGreatDoorRows
import Derived.Laws.Externs
import Derived.WalkKit
import Derived.WalkSpells
import Derived.WalkLawsBesides
import Derived.Lib.Mul64
import Derived.Stop.Asserts
import Derived.RowKitTokens
import Derived.Test.YtohhmobfmmeohaaGreatDoorKi0
set_option maxRecDepth 100000
set_option maxHeartbeats 4000000
namespace Go.Proofs.YtohhmobfmmeohaaGreatDoor
open Go.RowKit
def DG (s : ByteArray) : Prop := ∀ k (h : k < s.size), 48 ≤ (s[k]'h).toNat ∧ (s[k]'h).toNat ≤ 57
structure VN (s : ByteArray) (p : Int) (c : Bool) : Prop where
 pos : 0 < s.size
 len : s.size ≤ 800
 dg : DG s
 first : (s[0]'pos).toNat ≠ 48
 last : (s[s.size - 1]'(by omega)).toNat ≠ 48 ∨ c = true
 lo : -1099511627776 ≤ p
 hi : p ≤ 1099511627776
def VD (s : ByteArray) (p : Int) (c : Bool) : Prop := (s.size = 0 ∧ p = 0 ∧ c = false) ∨ VN s p c
def dcV (s : ByteArray) (p : Int) (c : Bool) : Value := .agg #[.string s, .int .i64 p, .bool c]
theorem list_data (s : ByteArray) : s.toList = s.data.toList := by
  have go : ∀ (n i : Nat) (r : List UInt8), n = s.size - i → ByteArray.toList.loop s i r = r.reverse ++ s.data.toList.drop i := by
    intro n
    induction n with
    | zero =>
      intro i r h
      rw [ByteArray.toList.loop, if_neg (by omega), List.drop_eq_nil_of_le (by simpa using (show s.size ≤ i by omega))]
      simp
    | succ n ih =>
      intro i r h
      have hi : i < s.size := by omega
      have hl : i < s.data.toList.length := by simpa using hi
      rw [ByteArray.toList.loop, if_pos hi, ih (i + 1) _ (by omega), List.drop_eq_getElem_cons hl, List.reverse_cons, List.append_assoc]
      congr 1
      simp only [List.singleton_append, List.cons.injEq, and_true]
      simp [ByteArray.get!, hi]
  show ByteArray.toList.loop s 0 [] = _
  simpa using go s.size 0 [] (by omega)
theorem empty_false {s : ByteArray} (h : 0 < s.size) : s.toList.isEmpty = false := by
 rw [list_data]
 cases q : s.data.toList with
 | nil => exact absurd (show s.size = 0 by have := congrArg List.length q; simpa using this) (by omega)
 | cons a r => rfl
theorem size_zero {s : ByteArray} (h : s.size = 0) : s = ⟨#[]⟩ := by
  cases s with
  | mk a =>
    have : a = #[] := Array.eq_empty_of_size_eq_zero h
    rw [this]
theorem areDig_yes (s : ByteArray) (hs : s.size ≤ 9223372036854775807) (hd : DG s) (w : World) :
 Calls Tryz.prog 96 #[.string s] w fun e w' => e = .returned (.bool true) ∧ w' = w := by
 have HD : Hid (DG s) := hd
 clear hd
 go_enter Tryz.func96, Tryz.ntmps96
 go_wp2
 go_loop [6] (fun i => ∃ k : Nat, k ≤ s.size ∧ i = .int .i64 k) (fun i => s.size - (intOf i).toNat)
 case atStart => exact ⟨0, Nat.zero_le _, rfl⟩
 case round =>
  obtain ⟨k, hk, rfl⟩ := hrel
  by_cases hlt : k < s.size
  · obtain ⟨v1, v2⟩ := HD.out k hlt
    have v1' : ¬ ((s[k]'hlt).toNat : Int) < 48 := by omega
    have v2' : ¬ (57 : Int) < ((s[k]'hlt).toNat : Int) := by omega
    go_wp2
    go_round
    case rel => exact ⟨k + 1, by omega, by go_num⟩
    case measure => simp [intOf]; omega
  · go_wp2
    go_ret
    exact ⟨rfl, rfl⟩
theorem dvalid_yes {s : ByteArray} {p : Int} {c : Bool} (h : VD s p c) (w : World) :
 Calls Tryz.prog 98 #[dcV s p c] w fun e w' => e = .returned .nilIface ∧ Below w.heap.size w w' := by
 unfold dcV
 rcases h with ⟨h1, rfl, rfl⟩ | h
 · obtain rfl := size_zero h1
   go_enter Tryz.func98, Tryz.ntmps98
   go_wp2
   go_ret
   exact ⟨rfl, (Below.refl _ _).alloc (Nat.le_refl _) _⟩
 · have p1 := h.pos
   have hE := empty_false p1
   have hl1 : s.size - 1 < s.size := by omega
   have AD := fun W => areDig_yes s (by have := h.len; omega) h.dg W
   have l1 := h.len
   have f1 : ((((s[0]'p1).toNat : Nat) : Int) == 48) = false := beq_eq_false_iff_ne.mpr (by have := h.first; omega)
   have n1 : ((s.size : Int) == 0) = false := beq_eq_false_iff_ne.mpr (by omega)
   have p2 := h.lo
   have p3 := h.hi
   have p2' : ¬ p < -1099511627776 := by omega
   have p3' : ¬ 1099511627776 < p := by omega
   have l2 : ¬ (800 : Int) < (s.size : Int) := by omega
   have ix : ((s.size : Int) - 1).toNat = s.size - 1 := by omega
   by_cases g1 : (s[s.size - 1]'hl1).toNat = 48
   · obtain rfl : c = true := h.last.resolve_left (fun q => q g1)
     have g2 : ((((s[s.size - 1]'hl1).toNat : Nat) : Int) == 48) = true := beq_iff_eq.mpr (by omega)
     clear h g1
     go_enter Tryz.func98, Tryz.ntmps98
     go_wp2_with fail
     refine (AD _).mono ?_
     rintro e w1 ⟨rfl, rfl⟩
     go_wp2
     go_ret
     exact ⟨rfl, (Below.refl _ _).alloc (Nat.le_refl _) _⟩
   · have g2 : ((((s[s.size - 1]'hl1).toNat : Nat) : Int) == 48) = false := beq_eq_false_iff_ne.mpr (by omega)
     clear h g1
     go_enter Tryz.func98, Tryz.ntmps98
     go_wp2_with fail
     refine (AD _).mono ?_
     rintro e w1 ⟨rfl, rfl⟩
     go_wp2
     go_ret
     exact ⟨rfl, (Below.refl _ _).alloc (Nat.le_refl _) _⟩
theorem rdig_yes (s : ByteArray) (hs : s.size ≤ 9223372036854775807) (hd : DG s) (w : World) :
 Calls Tryz.prog 78 #[.string s] w fun e w' => e = .returned (.bool true) ∧ w' = w := by
 have HD : Hid (DG s) := hd
 clear hd
 go_enter Tryz.func78, Tryz.ntmps78
 go_wp2
 go_loop [3] (fun i => ∃ k : Nat, k ≤ s.size ∧ i = .int .i64 k) (fun i => s.size - (intOf i).toNat)
 case atStart => exact ⟨0, Nat.zero_le _, rfl⟩
 case round =>
  obtain ⟨k, hk, rfl⟩ := hrel
  by_cases hlt : k < s.size
  · obtain ⟨v1, v2⟩ := HD.out k hlt
    have v1' : ¬ ((s[k]'hlt).toNat : Int) < 48 := by omega
    have v2' : ¬ (57 : Int) < ((s[k]'hlt).toNat : Int) := by omega
    go_wp2
    go_round
    case rel => exact ⟨k + 1, by omega, by go_num⟩
    case measure => simp [intOf]; omega
  · go_wp2
    go_ret
    exact ⟨rfl, rfl⟩
end Go.Proofs.YtohhmobfmmeohaaGreatDoor
