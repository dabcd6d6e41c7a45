/-
  Decimals far from all floats; how a decimal lies to a float's value and to the place half way, with more behind it and without. No program in sight.
-/
import Derived.Test.YtfoaeholbidngaaGreatDoorCo0
namespace Go.Proofs.YtfoaeholbidngaaGreatDoor

theorem dvA_ge {s : ByteArray} (hd : DG s) (hf : dgt s 0 ≠ 48) {k : Nat} (hk : 0 < k) : 10 ^ (k - 1) ≤ dvA s 0 k := by
  obtain ⟨j, rfl⟩ : ∃ j, k = 1 + j := ⟨k - 1, by omega⟩
  rw [dvA_add, show 1 + j - 1 = j from by omega]
  have a := dgt_dg hd 0
  have e : dvA s 0 1 = dgt s 0 - 48 := by rw [dvA_succ]; show 0 * 10 + (dgt s (0 + 0) - 48) = _; rw [Nat.add_zero]; omega
  have b : 1 ≤ dvA s 0 1 := by rw [e]; omega
  have c := Nat.mul_le_mul_right (10 ^ j) b
  omega
theorem VN.ge {s : ByteArray} {p : Int} {c : Bool} (h : VN s p c) : 10 ^ (s.size - 1) ≤ dvA s 0 s.size := dvA_ge h.dg (by rw [dgt_lt h.pos]; exact h.first) h.pos
/-- A decimal with a far point: above all floats, below all of them that are not 0. -/
theorem fr_far_up {s : ByteArray} {q p : Int} {c : Bool} (h : VN s q c) (k : Nat) (hp : (k : Int) + 1 ≤ p) : frD s p * 10 ^ k ≤ frN s p := by
  unfold frN frD
  have z := h.pos
  refine Nat.le_trans ?_ (Nat.mul_le_mul_right _ h.ge)
  rw [← Nat.pow_add, ← Nat.pow_add]
  exact Nat.pow_le_pow_right (by decide) (by omega)
theorem fr_far_dn {s : ByteArray} {q p : Int} {c : Bool} (h : VN s q c) (k : Nat) (hp : p ≤ -(k : Int)) : frN s p * 10 ^ k < frD s p := by
  unfold frN frD
  have a := dvA_lt h.dg 0 s.size
  rw [show (p - (s.size : Int)).toNat = 0 from by omega, Nat.pow_zero, Nat.mul_one]
  have b := Nat.mul_lt_mul_of_pos_right a (Nat.pow_pos (n := k) (show 0 < 10 by decide))
  refine Nat.lt_of_lt_of_le b ?_
  rw [← Nat.pow_add]
  exact Nat.pow_le_pow_right (by decide) (by omega)
theorem two_ten (a b : Nat) (h : a ≤ 3 * b) (b0 : 0 < b) : 2 ^ a < 10 ^ b := by
  refine Nat.lt_of_le_of_lt (Nat.pow_le_pow_right (by decide) h) ?_
  rw [Nat.pow_mul]
  exact Nat.pow_lt_pow_left (by decide) (by omega)
theorem far_lo {nn dd N D A B : Nat} (hA : A < B) (hD : 0 < D) (hd : 0 < dd) (h : dd * B ≤ nn) (k : N ≤ D * A) : N * dd < nn * D := by
  have a := Nat.mul_le_mul_right dd k
  have b : D * A * dd < D * B * dd := Nat.mul_lt_mul_of_pos_right (Nat.mul_lt_mul_of_pos_left hA hD) hd
  have c := Nat.mul_le_mul_right D h
  have e : D * B * dd = dd * B * D := by rw [Nat.mul_assoc, Nat.mul_comm D, Nat.mul_comm B dd]
  omega
theorem far_hi {nn dd N D A B : Nat} (hA : A ≤ B) (hN : 0 < N) (h : nn * B < dd) (k : D ≤ N * A) : nn * D < N * dd := by
  have a := Nat.mul_le_mul_left nn k
  have b : nn * (N * A) ≤ nn * (N * B) := Nat.mul_le_mul_left nn (Nat.mul_le_mul_left N hA)
  have c := Nat.mul_lt_mul_of_pos_left h hN
  have e : nn * (N * B) = N * (nn * B) := Nat.mul_left_comm _ _ _
  omega
/-- A fraction that is a float's value, or half way behind one: within bounds. -/
theorem Frc.within {N D m : Nat} {x : Int} (h : Frc N D m x) {k a : Nat} (hm : m < 2 ^ k) (ha : k ≤ a) (x1 : x + k ≤ a) : N ≤ D * 2 ^ a := by
  have h' := h.1
  rcases Int.lt_or_le x 0 with c | c
  · have q := h'.at x (by omega) (Int.le_refl _)
    rw [ev_self] at q
    unfold ev at q
    have b : D * m ≤ D * 2 ^ a := Nat.mul_le_mul_left D (Nat.le_trans (Nat.le_of_lt hm) (Nat.pow_le_pow_right (by decide) ha))
    rw [← q] at b
    exact Nat.le_trans (Nat.le_mul_of_pos_right _ (Nat.two_pow_pos _)) b
  · have q := h'.at 0 (Int.le_refl _) c
    rw [ev_self] at q
    unfold ev at q
    rw [q]
    refine Nat.mul_le_mul_left D ?_
    refine Nat.le_trans (Nat.mul_le_mul_right _ (Nat.le_of_lt hm)) ?_
    rw [← Nat.pow_add]
    exact Nat.pow_le_pow_right (by decide) (by omega)
theorem Frc.above {N D m : Nat} {x : Int} (h : Frc N D m x) {a : Nat} (m0 : 0 < m) (x1 : -(a : Int) ≤ x) : D ≤ N * 2 ^ a := by
  have h' := h.1
  rcases Int.lt_or_le x 0 with c | c
  · have q := h'.at x (by omega) (Int.le_refl _)
    rw [ev_self] at q
    unfold ev at q
    refine Nat.le_trans (Nat.le_mul_of_pos_right D m0) ?_
    rw [← q]
    exact Nat.mul_le_mul_left N (Nat.pow_le_pow_right (by decide) (by omega))
  · have q := h'.at 0 (Int.le_refl _) c
    rw [ev_self] at q
    unfold ev at q
    rw [q]
    refine Nat.le_trans ?_ (Nat.le_mul_of_pos_right _ (Nat.two_pow_pos _))
    exact Nat.le_mul_of_pos_right D (Nat.mul_pos m0 (Nat.two_pow_pos _))
/-- A number, with more behind it or without, against a fraction. -/
def oc (n d : Nat) (c : Bool) (N D : Nat) : Int := if ord (n * D) (N * d) = 0 ∧ c = true then 1 else ord (n * D) (N * d)
theorem oc_gt {n d N D : Nat} {c : Bool} (h : N * d < n * D) : oc n d c N D = 1 := by
  have e : ord (n * D) (N * d) = 1 := by unfold ord; rw [if_neg (by omega), if_pos h]
  unfold oc
  rw [e, if_neg (by omega)]
theorem oc_lt {n d N D : Nat} {c : Bool} (h : n * D < N * d) : oc n d c N D = -1 := by
  have e : ord (n * D) (N * d) = -1 := by unfold ord; rw [if_pos h]
  unfold oc
  rw [e, if_neg (by omega)]
theorem oc_eq {n d N D : Nat} {c : Bool} (h : n * D = N * d) : oc n d c N D = if c then 1 else 0 := by
  have e : ord (n * D) (N * d) = 0 := by unfold ord; rw [if_neg (by omega), if_neg (by omega)]
  unfold oc
  rw [e]
  cases c <;> simp
theorem oc_far_up {s : ByteArray} {q p : Int} {c : Bool} (h : VN s q c) (hp : 400 ≤ p) {N D m : Nat} {x : Int} (k : Frc N D m x) (hm : m < 2 ^ 64) (x1 : x ≤ 1000) (b : Bool) : oc (frN s p) (frD s p) b N D = 1 := by
  obtain ⟨a, ha⟩ : ∃ a : Nat, a = 1100 := ⟨_, rfl⟩
  obtain ⟨e, he⟩ : ∃ e : Nat, e = 399 := ⟨_, rfl⟩
  exact oc_gt (far_lo (two_ten a e (by omega) (by omega)) k.pos (Nat.pow_pos (by decide)) (fr_far_up h e (by omega)) (k.within hm (by omega) (by omega)))
theorem oc_far_dn {s : ByteArray} {q p : Int} {c : Bool} (h : VN s q c) (hp : p ≤ -400) {N D m : Nat} {x : Int} (k : Frc N D m x) (m0 : 0 < m) (x1 : -1100 ≤ x) (b : Bool) : oc (frN s p) (frD s p) b N D = -1 := by
  obtain ⟨a, ha⟩ : ∃ a : Nat, a = 1100 := ⟨_, rfl⟩
  obtain ⟨e, he⟩ : ∃ e : Nat, e = 400 := ⟨_, rfl⟩
  have N0 : 0 < N := Nat.pos_of_ne_zero fun z => by have := k.zero.1 z; omega
  exact oc_lt (far_hi (Nat.le_of_lt (two_ten a e (by omega) (by omega))) N0 (fr_far_dn h e (by omega)) (k.above m0 (by omega)))
/-- Against 0: above it. -/
theorem oc_nought {s : ByteArray} {q p : Int} {c : Bool} (h : VN s q c) {D : Nat} (D0 : 0 < D) (b : Bool) : oc (frN s p) (frD s p) b 0 D = 1 := by
  apply oc_gt
  rw [Nat.zero_mul]
  exact Nat.mul_pos (Nat.mul_pos h.val (Nat.pow_pos (by decide))) D0
/-- A far point may be brought nearer. -/
theorem oc_near {s : ByteArray} {p p' : Int} {c : Bool} (h : VN s p c) (hp : p' = p ∨ (400 ≤ p ∧ 400 ≤ p') ∨ (p ≤ -400 ∧ p' ≤ -400)) {N D m : Nat} {x : Int} (k : Frc N D m x) (hm : m < 2 ^ 64) (x0 : -1100 ≤ x) (x1 : x ≤ 1000) (b : Bool) : oc (frN s p') (frD s p') b N D = oc (frN s p) (frD s p) b N D := by
  rcases hp with rfl | ⟨h1, h2⟩ | ⟨h1, h2⟩
  · rfl
  · rw [oc_far_up h h1 k hm x1, oc_far_up h h2 k hm x1]
  · rcases Nat.eq_zero_or_pos m with z | z
    · obtain rfl := k.zero.2 z
      rw [oc_nought h k.pos, oc_nought h k.pos]
    · rw [oc_far_dn h h1 k z x0, oc_far_dn h h2 k z x0]
theorem nrP_far (p : Int) : nrP p = p ∨ (400 ≤ p ∧ 400 ≤ nrP p) ∨ (p ≤ -400 ∧ nrP p ≤ -400) := by
  unfold nrP
  split
  · exact .inr (.inl ⟨by omega, by omega⟩)
  · split
    · exact .inr (.inr ⟨by omega, by omega⟩)
    · exact .inl rfl
/-- Rounded: the number lies between the half way places. -/
theorem up_oc {f : Nat} {L : Int} {n d N D b : Nat} {c : Bool} (h : Frc N D (hM f b) (hX f L b)) (D0 : 0 < D) : Up f L n d 0 c b ↔ (oc n d c N D = -1 ∨ (oc n d c N D = 0 ∧ b % 2 = 0)) := by
  obtain ⟨c1, c2⟩ := frc_cmp (n := n) (d := d) h D0
  unfold Up
  rw [c1, c2]
  rcases Nat.lt_trichotomy (n * D) (N * d) with z | z | z
  · rw [oc_lt z]
    constructor
    · intro _; exact .inl rfl
    · intro _; exact .inl z
  · rw [oc_eq z]
    cases c
    · constructor
      · rintro (y | ⟨_, y, _⟩)
        · omega
        · exact .inr ⟨rfl, y⟩
      · rintro (y | ⟨_, y⟩)
        · simp at y
        · exact .inr ⟨z, y, rfl⟩
    · constructor
      · rintro (y | ⟨_, _, y⟩)
        · omega
        · cases y
      · rintro (y | ⟨y, _⟩)
        · simp at y
        · simp at y
  · rw [oc_gt z]
    constructor
    · rintro (y | ⟨y, _⟩) <;> omega
    · rintro (y | ⟨y, _⟩) <;> omega
theorem oc_cases (n d : Nat) (c : Bool) (N D : Nat) : oc n d c N D = -1 ∨ oc n d c N D = 0 ∨ oc n d c N D = 1 := by
  rcases Nat.lt_trichotomy (n * D) (N * d) with z | z | z
  · exact .inl (oc_lt z)
  · rw [oc_eq z]
    cases c
    · exact .inr (.inl rfl)
    · exact .inr (.inr rfl)
  · exact .inr (.inr (oc_gt z))
theorem dn_oc {f : Nat} {L : Int} {n d N D b : Nat} {c : Bool} (_b0 : b ≠ 0) (h : Frc N D (hM f (b - 1)) (hX f L (b - 1))) (D0 : 0 < D) (u : ¬ Up f L n d 0 c (b - 1)) : oc n d c N D = 1 ∨ (oc n d c N D = 0 ∧ b % 2 = 0) := by
  rw [up_oc h D0] at u
  rcases oc_cases n d c N D with z | z | z
  · exact absurd (.inl z) u
  · exact .inr ⟨z, by
      have : ¬ ((b - 1) % 2 = 0) := fun y => u (.inr ⟨z, y⟩)
      omega⟩
  · exact .inl z
end Go.Proofs.YtfoaeholbidngaaGreatDoor
