/-
  Holds: VDecV VDecM.
-/
import Derived.Test.YtjagnfddmlkalaaGreatDoorRows
import Derived.Laws.Externs
import Derived.WalkKit
import Derived.WalkSpells
import Derived.WalkLawsBesides
import Derived.Lib.Mul64
import Derived.Stop.Asserts
import Derived.RowKitTokens
import Derived.Lib.Strings
import Derived.Lib.BufferWrite
import Derived.Deep.OwnRows
import Derived.Deep.RegionHeld3
import Derived.BigQuiet
import Derived.Test.YtjagnfddmlkalaaGreatDoorKj1
set_option maxRecDepth 100000
set_option maxHeartbeats 4000000
namespace Go.Proofs.YtjagnfddmlkalaaGreatDoor
open Go.RowKit
def dgt (s : ByteArray) (i : Nat) : Nat := if h : i < s.size then (s[i]'h).toNat else 48
theorem dgt_lt {s : ByteArray} {i : Nat} (h : i < s.size) : dgt s i = (s[i]'h).toNat := by unfold dgt; rw [dif_pos h]
theorem dgt_ge {s : ByteArray} {i : Nat} (h : s.size ≤ i) : dgt s i = 48 := by unfold dgt; rw [dif_neg (by omega)]
def pv (s : ByteArray) : Nat → Nat
 | 0 => 0
 | n + 1 => 10 * pv s n + (dgt s n - 48)
theorem dgt_in {s : ByteArray} (h : DG s) (i : Nat) : 48 ≤ dgt s i ∧ dgt s i ≤ 57 := by
 unfold dgt
 split
 · exact h i _
 · omega
theorem pv_ext {s t : ByteArray} : ∀ (n : Nat), (∀ j, j < n → dgt s j = dgt t j) → pv s n = pv t n
  | 0, _ => rfl
  | n + 1, h => by
    have a := pv_ext n (fun j hj => h j (by omega))
    have b := h n (by omega)
    show 10 * pv s n + (dgt s n - 48) = 10 * pv t n + (dgt t n - 48)
    rw [a, b]
theorem pv_lt {s t : ByteArray} (hs : DG s) (ht : DG t) {n : Nat} (h : pv s n < pv t n) : ∀ k, pv s (n + k) < pv t (n + k)
  | 0 => h
  | k + 1 => by
    have a := pv_lt hs ht h k
    have b := dgt_in hs (n + k)
    have c := dgt_in ht (n + k)
    show 10 * pv s (n + k) + (dgt s (n + k) - 48) < 10 * pv t (n + k) + (dgt t (n + k) - 48)
    omega
theorem pv_diff {s t : ByteArray} (hs : DG s) (ht : DG t) {i : Nat} (he : ∀ j, j < i → dgt s j = dgt t j) (h : dgt s i < dgt t i) {K : Nat} (hK : i < K) : pv s K < pv t K := by
 obtain ⟨k, rfl⟩ : ∃ k, K = (i + 1) + k := ⟨K - (i + 1), by omega⟩
 refine pv_lt hs ht ?_ k
 have a := pv_ext i he
 have b := dgt_in hs i
 show 10 * pv s i + (dgt s i - 48) < 10 * pv t i + (dgt t i - 48)
 omega
theorem pv_bound {s : ByteArray} (hs : DG s) : ∀ n, pv s n < 10 ^ n
  | 0 => Nat.one_pos
  | n + 1 => by
    have a := pv_bound hs n
    have b := dgt_in hs n
    show 10 * pv s n + (dgt s n - 48) < 10 ^ (n + 1)
    rw [Nat.pow_succ]
    omega
theorem nines_at (s : ByteArray) : ∀ n, ∃ m, m ≤ n ∧ (∀ j, m ≤ j → j < n → dgt s j = 57) ∧ (0 < m → dgt s (m - 1) ≠ 57)
  | 0 => ⟨0, Nat.le_refl _, fun _ _ h => absurd h (Nat.not_lt_zero _), fun h => absurd h (Nat.lt_irrefl _)⟩
  | n + 1 => by
    by_cases c : dgt s n = 57
    · obtain ⟨m, h1, h2, h3⟩ := nines_at s n
      refine ⟨m, by omega, fun j a b => ?_, h3⟩
      by_cases z : j = n
      · rw [z]; exact c
      · exact h2 j a (by omega)
    · exact ⟨n + 1, Nat.le_refl _, fun j a b => absurd a (by omega), fun _ => c⟩
end Go.Proofs.YtjagnfddmlkalaaGreatDoor
