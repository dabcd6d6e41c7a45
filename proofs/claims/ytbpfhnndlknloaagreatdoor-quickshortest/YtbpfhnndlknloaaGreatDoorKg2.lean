/-
  Holds: VDecV VDecM.
-/
import Derived.Test.YtbpfhnndlknloaaGreatDoorRows
import Derived.Laws.Externs
import Derived.WalkKit
import Derived.WalkSpells
import Derived.WalkLawsBesides
import Derived.Lib.Mul64
import Derived.Stop.Asserts
import Derived.RowKitTokens
import Derived.Lib.Strings
import Derived.Lib.BufferWrite
import Derived.Deep.OwnRows
import Derived.Deep.RegionHeld3
import Derived.BigQuiet
import Derived.Test.YtbpfhnndlknloaaGreatDoorKg1
set_option maxRecDepth 100000
set_option maxHeartbeats 4000000
namespace Go.Proofs.YtbpfhnndlknloaaGreatDoor
open Go.RowKit
def cmpI (x y : Int) : Int := if x < y then -1 else if y < x then 1 else 0
def dgt (s : ByteArray) (i : Nat) : Nat := if h : i < s.size then (s[i]'h).toNat else 48
theorem dgt_lt {s : ByteArray} {i : Nat} (h : i < s.size) : dgt s i = (s[i]'h).toNat := by unfold dgt; rw [dif_pos h]
theorem dgt_ge {s : ByteArray} {i : Nat} (h : s.size ≤ i) : dgt s i = 48 := by unfold dgt; rw [dif_neg (by omega)]
theorem at_any (s : ByteArray) (p : Int) (c : Bool) (i : Nat) (w : World) :
 Calls Tryz.prog 178 #[dcV s p c, .int .i64 i] w fun e w' => e = .returned (.int .u8 (dgt s i : Nat)) ∧ Below w.heap.size w w' := by
 unfold dcV
 by_cases h : i < s.size
 · rw [dgt_lt h]
   go_enter Tryz.func178, Tryz.ntmps178
   go_wp2
   go_ret
   exact ⟨rfl, (Below.refl _ _).alloc (Nat.le_refl _) _⟩
 · rw [dgt_ge (by omega)]
   go_enter Tryz.func178, Tryz.ntmps178
   go_wp2
   go_ret
   exact ⟨rfl, (Below.refl _ _).alloc (Nat.le_refl _) _⟩
def pv (s : ByteArray) : Nat → Nat
 | 0 => 0
 | n + 1 => 10 * pv s n + (dgt s n - 48)
theorem dgt_in {s : ByteArray} (h : DG s) (i : Nat) : 48 ≤ dgt s i ∧ dgt s i ≤ 57 := by
 unfold dgt
 split
 · exact h i _
 · omega
theorem pv_ext {s t : ByteArray} : ∀ (n : Nat), (∀ j, j < n → dgt s j = dgt t j) → pv s n = pv t n
  | 0, _ => rfl
  | n + 1, h => by
    have a := pv_ext n (fun j hj => h j (by omega))
    have b := h n (by omega)
    show 10 * pv s n + (dgt s n - 48) = 10 * pv t n + (dgt t n - 48)
    rw [a, b]
theorem pv_lt {s t : ByteArray} (hs : DG s) (ht : DG t) {n : Nat} (h : pv s n < pv t n) : ∀ k, pv s (n + k) < pv t (n + k)
  | 0 => h
  | k + 1 => by
    have a := pv_lt hs ht h k
    have b := dgt_in hs (n + k)
    have c := dgt_in ht (n + k)
    show 10 * pv s (n + k) + (dgt s (n + k) - 48) < 10 * pv t (n + k) + (dgt t (n + k) - 48)
    omega
theorem pv_diff {s t : ByteArray} (hs : DG s) (ht : DG t) {i : Nat} (he : ∀ j, j < i → dgt s j = dgt t j) (h : dgt s i < dgt t i) {K : Nat} (hK : i < K) : pv s K < pv t K := by
 obtain ⟨k, rfl⟩ : ∃ k, K = (i + 1) + k := ⟨K - (i + 1), by omega⟩
 refine pv_lt hs ht ?_ k
 have a := pv_ext i he
 have b := dgt_in hs i
 show 10 * pv s i + (dgt s i - 48) < 10 * pv t i + (dgt t i - 48)
 omega
theorem pad_iff {u t : ByteArray} (hu : DG u) (ht : DG t) {n : Nat} (h : u.size ≤ n) (k : Nat) : pv u (n + k) ≤ pv t (n + k) ↔ pv u n ≤ pv t n := by
  constructor
  · intro a
    rcases Nat.lt_or_ge (pv t n) (pv u n) with b | b
    · exact absurd (pv_lt ht hu b k) (by omega)
    · exact b
  · intro a
    induction k with
    | zero => exact a
    | succ k ih =>
      have b : dgt u (n + k) = 48 := dgt_ge (by omega)
      show 10 * pv u (n + k) + (dgt u (n + k) - 48) ≤ 10 * pv t (n + k) + (dgt t (n + k) - 48)
      omega
theorem pad_two {u t : ByteArray} (hu : DG u) (ht : DG t) {n m : Nat} (h : u.size ≤ n) (h' : u.size ≤ m) : pv u n ≤ pv t n ↔ pv u m ≤ pv t m := by
 rcases Nat.le_total n m with a | a
 · obtain ⟨k, rfl⟩ : ∃ k, m = n + k := ⟨m - n, by omega⟩
   exact (pad_iff hu ht h k).symm
 · obtain ⟨k, rfl⟩ : ∃ k, n = m + k := ⟨n - m, by omega⟩
   exact pad_iff hu ht h' k
theorem pv_bound {s : ByteArray} (hs : DG s) : ∀ n, pv s n < 10 ^ n
  | 0 => Nat.one_pos
  | n + 1 => by
    have a := pv_bound hs n
    have b := dgt_in hs n
    show 10 * pv s n + (dgt s n - 48) < 10 ^ (n + 1)
    rw [Nat.pow_succ]
    omega
theorem pv_nines {s : ByteArray} : ∀ n, (∀ j, j < n → dgt s j = 57) → pv s n + 1 = 10 ^ n
  | 0, _ => rfl
  | n + 1, h => by
    have a := pv_nines n (fun j hj => h j (by omega))
    have b := h n (by omega)
    show 10 * pv s n + (dgt s n - 48) + 1 = 10 ^ (n + 1)
    rw [Nat.pow_succ]
    omega
theorem pv_next {s u : ByteArray} {m : Nat} (hm : 0 < m) (hu : u.size ≤ m) (he : ∀ j, j < m - 1 → dgt u j = dgt s j) (h1 : 48 ≤ dgt s (m - 1)) (hl : dgt u (m - 1) = dgt s (m - 1) + 1) {n : Nat} (hn : m ≤ n) (h9 : ∀ j, m ≤ j → j < n → dgt s j = 57) : pv u n = pv s n + 1 := by
  obtain ⟨k, rfl⟩ : ∃ k, n = m + k := ⟨n - m, by omega⟩
  clear hn
  induction k with
  | zero =>
    obtain ⟨q, rfl⟩ : ∃ q, m = q + 1 := ⟨m - 1, by omega⟩
    have a := pv_ext (s := u) (t := s) q (fun j hj => he j (by omega))
    rw [Nat.add_sub_cancel] at hl h1
    show 10 * pv u q + (dgt u q - 48) = 10 * pv s q + (dgt s q - 48) + 1
    omega
  | succ k ih =>
    have a := ih (fun j x y => h9 j x (by omega))
    have b := h9 (m + k) (by omega) (by omega)
    have c : dgt u (m + k) = 48 := dgt_ge (by omega)
    show 10 * pv u (m + k) + (dgt u (m + k) - 48) = 10 * pv s (m + k) + (dgt s (m + k) - 48) + 1
    omega
theorem nines_at (s : ByteArray) : ∀ n, ∃ m, m ≤ n ∧ (∀ j, m ≤ j → j < n → dgt s j = 57) ∧ (0 < m → dgt s (m - 1) ≠ 57)
  | 0 => ⟨0, Nat.le_refl _, fun _ _ h => absurd h (Nat.not_lt_zero _), fun h => absurd h (Nat.lt_irrefl _)⟩
  | n + 1 => by
    by_cases c : dgt s n = 57
    · obtain ⟨m, h1, h2, h3⟩ := nines_at s n
      refine ⟨m, by omega, fun j a b => ?_, h3⟩
      by_cases z : j = n
      · rw [z]; exact c
      · exact h2 j a (by omega)
    · exact ⟨n + 1, Nat.le_refl _, fun j a b => absurd a (by omega), fun _ => c⟩
def lw (s t : ByteArray) : Int := cmpI (pv s (max s.size t.size) : Nat) (pv t (max s.size t.size) : Nat)
def lowF (s : ByteArray) (p : Int) (t : ByteArray) (q : Int) : Int :=
 if s.size = 0 ∧ t.size = 0 then 0 else if s.size = 0 then -1 else if t.size = 0 then 1 else if p < q then -1 else if q < p then 1 else lw s t
structure NX (s : ByteArray) (p : Int) (u : ByteArray) (p' : Int) : Prop where
 dg : DG u
 pos : 0 < u.size
 len : u.size ≤ 800
 way : (p' = p ∧ u.size ≤ s.size ∧ pv u s.size = pv s s.size + 1) ∨ (p' = p + 1 ∧ u.size = 1 ∧ dgt u 0 = 49 ∧ pv s s.size + 1 = 10 ^ s.size)
theorem cmpI_le {x y : Nat} : cmpI (x : Int) (y : Int) ≤ 0 ↔ x ≤ y := by unfold cmpI; split <;> (try split) <;> omega
theorem nx_le {s : ByteArray} {p : Int} {u : ByteArray} {p' : Int} (h : NX s p u p') {t : ByteArray} {q : Int} {d : Bool} (ht : VN t q d) : lowF u p' t q ≤ 0 ↔ p < q ∨ (p = q ∧ pv s s.size < pv t s.size) := by
 have tp := ht.pos
 have up := h.pos
 unfold lowF
 rw [if_neg (by omega), if_neg (by omega), if_neg (by omega)]
 rcases h.way with ⟨hpp, h1, h2⟩ | ⟨hpp, h1, h2, h3⟩
 · rw [hpp]
   rcases Int.lt_trichotomy p q with a | a | a
   · rw [if_pos a]; omega
   · rw [if_neg (by omega), if_neg (by omega)]
     unfold lw
     rw [cmpI_le, pad_two h.dg ht.dg (n := max u.size t.size) (m := s.size) (by omega) h1]
     omega
   · rw [if_neg (by omega), if_pos a]; omega
 · rw [hpp]
   rcases Int.lt_trichotomy (p + 1) q with a | a | a
   · rw [if_pos a]; omega
   · rw [if_neg (by omega), if_neg (by omega)]
     unfold lw
     rw [cmpI_le, pad_two h.dg ht.dg (n := max u.size t.size) (m := 1) (by omega) (by omega)]
     have f := ht.first
     have g := dgt_lt tp
     have b := dgt_in ht.dg 0
     have e1 : pv u 1 = 1 := by show 10 * 0 + (dgt u 0 - 48) = 1; omega
     have e2 : pv t 1 = dgt t 0 - 48 := by show 10 * 0 + (dgt t 0 - 48) = _; omega
     rw [e1, e2]
     omega
   · rw [if_neg (by omega), if_pos a]
     have b := pv_bound ht.dg s.size
     omega
end Go.Proofs.YtbpfhnndlknloaaGreatDoor
