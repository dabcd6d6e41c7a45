/-
  Holds: VDecV VDecM.
-/
import Derived.Test.YtbpfhnndlknloaaGreatDoorRows
import Derived.Laws.Externs
import Derived.WalkKit
import Derived.WalkSpells
import Derived.WalkLawsBesides
import Derived.Lib.Mul64
import Derived.Stop.Asserts
import Derived.RowKitTokens
import Derived.Lib.Strings
import Derived.Lib.BufferWrite
import Derived.Deep.OwnRows
import Derived.Deep.RegionHeld3
import Derived.BigQuiet
import Derived.Test.YtbpfhnndlknloaaGreatDoorKh1
set_option maxRecDepth 100000
set_option maxHeartbeats 4000000
namespace Go.Proofs.YtbpfhnndlknloaaGreatDoor
open Go.RowKit
def cmpI (x y : Int) : Int := if x < y then -1 else if y < x then 1 else 0
theorem nan_int (x : Int) (w : World) :
 Calls Tryz.prog 125 #[.int .i64 x] w fun e w' => e = .returned (.bool false) ∧ w' = w := by
 go_enter Tryz.func125, Tryz.ntmps125
 go_wp2
 go_ret
 simp
theorem nan_byte (x : Int) (w : World) :
 Calls Tryz.prog 126 #[.int .u8 x] w fun e w' => e = .returned (.bool false) ∧ w' = w := by
 go_enter Tryz.func126, Tryz.ntmps126
 go_wp2
 go_ret
 simp
theorem cmp_int (x y : Int) (w : World) :
 Calls Tryz.prog 95 #[.int .i64 x, .int .i64 y] w fun e w' => e = .returned (.int .i64 (cmpI x y)) ∧ w' = w := by
 have H := nan_int
 unfold cmpI
 by_cases h1 : x < y
 · rw [if_pos h1]
   go_enter Tryz.func95, Tryz.ntmps95
   go_wp2_with fail
   refine (H _ _).mono ?_
   rintro e w0 ⟨rfl, rfl⟩
   go_wp2_with fail
   refine (H _ _).mono ?_
   rintro e w0 ⟨rfl, rfl⟩
   go_wp2
   go_ret
   exact ⟨rfl, rfl⟩
 · rw [if_neg h1]
   by_cases h2 : y < x
   · rw [if_pos h2]
     go_enter Tryz.func95, Tryz.ntmps95
     go_wp2_with fail
     refine (H _ _).mono ?_
     rintro e w0 ⟨rfl, rfl⟩
     go_wp2_with fail
     refine (H _ _).mono ?_
     rintro e w0 ⟨rfl, rfl⟩
     go_wp2
     go_ret
     exact ⟨rfl, rfl⟩
   · rw [if_neg h2]
     go_enter Tryz.func95, Tryz.ntmps95
     go_wp2_with fail
     refine (H _ _).mono ?_
     rintro e w0 ⟨rfl, rfl⟩
     go_wp2_with fail
     refine (H _ _).mono ?_
     rintro e w0 ⟨rfl, rfl⟩
     go_wp2
     go_ret
     exact ⟨rfl, rfl⟩
theorem cmp_byte (x y : Int) (w : World) :
 Calls Tryz.prog 96 #[.int .u8 x, .int .u8 y] w fun e w' => e = .returned (.int .i64 (cmpI x y)) ∧ w' = w := by
 have H := nan_byte
 unfold cmpI
 by_cases h1 : x < y
 · rw [if_pos h1]
   go_enter Tryz.func96, Tryz.ntmps96
   go_wp2_with fail
   refine (H _ _).mono ?_
   rintro e w0 ⟨rfl, rfl⟩
   go_wp2_with fail
   refine (H _ _).mono ?_
   rintro e w0 ⟨rfl, rfl⟩
   go_wp2
   go_ret
   exact ⟨rfl, rfl⟩
 · rw [if_neg h1]
   by_cases h2 : y < x
   · rw [if_pos h2]
     go_enter Tryz.func96, Tryz.ntmps96
     go_wp2_with fail
     refine (H _ _).mono ?_
     rintro e w0 ⟨rfl, rfl⟩
     go_wp2_with fail
     refine (H _ _).mono ?_
     rintro e w0 ⟨rfl, rfl⟩
     go_wp2
     go_ret
     exact ⟨rfl, rfl⟩
   · rw [if_neg h2]
     go_enter Tryz.func96, Tryz.ntmps96
     go_wp2_with fail
     refine (H _ _).mono ?_
     rintro e w0 ⟨rfl, rfl⟩
     go_wp2_with fail
     refine (H _ _).mono ?_
     rintro e w0 ⟨rfl, rfl⟩
     go_wp2
     go_ret
     exact ⟨rfl, rfl⟩
def bhd : Bool → Bool → Int | true, true => 2 | true, false => 1 | false, true => -1 | false, false => 0
theorem behind_any (a b : Bool) (w : World) :
 Calls Tryz.prog 97 #[.bool a, .bool b] w fun e w' => e = .returned (.int .i64 (bhd a b)) ∧ w' = w := by
 cases a <;> cases b <;>
 · go_enter Tryz.func97, Tryz.ntmps97
   go_wp2
   go_ret
   exact ⟨rfl, rfl⟩
def dgt (s : ByteArray) (i : Nat) : Nat := if h : i < s.size then (s[i]'h).toNat else 48
theorem dgt_lt {s : ByteArray} {i : Nat} (h : i < s.size) : dgt s i = (s[i]'h).toNat := by unfold dgt; rw [dif_pos h]
theorem dgt_ge {s : ByteArray} {i : Nat} (h : s.size ≤ i) : dgt s i = 48 := by unfold dgt; rw [dif_neg (by omega)]
def pv (s : ByteArray) : Nat → Nat
 | 0 => 0
 | n + 1 => 10 * pv s n + (dgt s n - 48)
theorem dgt_in {s : ByteArray} (h : DG s) (i : Nat) : 48 ≤ dgt s i ∧ dgt s i ≤ 57 := by
 unfold dgt
 split
 · exact h i _
 · omega
theorem pv_ext {s t : ByteArray} : ∀ (n : Nat), (∀ j, j < n → dgt s j = dgt t j) → pv s n = pv t n
  | 0, _ => rfl
  | n + 1, h => by
    have a := pv_ext n (fun j hj => h j (by omega))
    have b := h n (by omega)
    show 10 * pv s n + (dgt s n - 48) = 10 * pv t n + (dgt t n - 48)
    rw [a, b]
theorem pv_lt {s t : ByteArray} (hs : DG s) (ht : DG t) {n : Nat} (h : pv s n < pv t n) : ∀ k, pv s (n + k) < pv t (n + k)
  | 0 => h
  | k + 1 => by
    have a := pv_lt hs ht h k
    have b := dgt_in hs (n + k)
    have c := dgt_in ht (n + k)
    show 10 * pv s (n + k) + (dgt s (n + k) - 48) < 10 * pv t (n + k) + (dgt t (n + k) - 48)
    omega
theorem pv_diff {s t : ByteArray} (hs : DG s) (ht : DG t) {i : Nat} (he : ∀ j, j < i → dgt s j = dgt t j) (h : dgt s i < dgt t i) {K : Nat} (hK : i < K) : pv s K < pv t K := by
 obtain ⟨k, rfl⟩ : ∃ k, K = (i + 1) + k := ⟨K - (i + 1), by omega⟩
 refine pv_lt hs ht ?_ k
 have a := pv_ext i he
 have b := dgt_in hs i
 show 10 * pv s i + (dgt s i - 48) < 10 * pv t i + (dgt t i - 48)
 omega
theorem pad_iff {u t : ByteArray} (hu : DG u) (ht : DG t) {n : Nat} (h : u.size ≤ n) (k : Nat) : pv u (n + k) ≤ pv t (n + k) ↔ pv u n ≤ pv t n := by
  constructor
  · intro a
    rcases Nat.lt_or_ge (pv t n) (pv u n) with b | b
    · exact absurd (pv_lt ht hu b k) (by omega)
    · exact b
  · intro a
    induction k with
    | zero => exact a
    | succ k ih =>
      have b : dgt u (n + k) = 48 := dgt_ge (by omega)
      show 10 * pv u (n + k) + (dgt u (n + k) - 48) ≤ 10 * pv t (n + k) + (dgt t (n + k) - 48)
      omega
theorem pv_bound {s : ByteArray} (hs : DG s) : ∀ n, pv s n < 10 ^ n
  | 0 => Nat.one_pos
  | n + 1 => by
    have a := pv_bound hs n
    have b := dgt_in hs n
    show 10 * pv s n + (dgt s n - 48) < 10 ^ (n + 1)
    rw [Nat.pow_succ]
    omega
theorem nines_at (s : ByteArray) : ∀ n, ∃ m, m ≤ n ∧ (∀ j, m ≤ j → j < n → dgt s j = 57) ∧ (0 < m → dgt s (m - 1) ≠ 57)
  | 0 => ⟨0, Nat.le_refl _, fun _ _ h => absurd h (Nat.not_lt_zero _), fun h => absurd h (Nat.lt_irrefl _)⟩
  | n + 1 => by
    by_cases c : dgt s n = 57
    · obtain ⟨m, h1, h2, h3⟩ := nines_at s n
      refine ⟨m, by omega, fun j a b => ?_, h3⟩
      by_cases z : j = n
      · rw [z]; exact c
      · exact h2 j a (by omega)
    · exact ⟨n + 1, Nat.le_refl _, fun j a b => absurd a (by omega), fun _ => c⟩
def lw (s t : ByteArray) : Int := cmpI (pv s (max s.size t.size) : Nat) (pv t (max s.size t.size) : Nat)
def lowF (s : ByteArray) (p : Int) (t : ByteArray) (q : Int) : Int :=
 if s.size = 0 ∧ t.size = 0 then 0 else if s.size = 0 then -1 else if t.size = 0 then 1 else if p < q then -1 else if q < p then 1 else lw s t
theorem cmpI_le {x y : Nat} : cmpI (x : Int) (y : Int) ≤ 0 ↔ x ≤ y := by unfold cmpI; split <;> (try split) <;> omega
theorem cmpI_ge {x y : Nat} : 0 ≤ cmpI (x : Int) (y : Int) ↔ y ≤ x := by unfold cmpI; split <;> (try split) <;> omega
end Go.Proofs.YtbpfhnndlknloaaGreatDoor
