/-
  Digits as a number: plain mathematics (the document's Digits, a number's text, what is left of it without the noughts at its end).
-/
import Derived.Test.YtfoaeholbidngaaGreatDoorEx5
import Derived.Test.YtfoaeholbidngaaGreatDoorEwA
namespace Go.Proofs.YtfoaeholbidngaaGreatDoor

theorem dgt_dg {s : ByteArray} (h : DG s) (i : Nat) : 48 ≤ dgt s i ∧ dgt s i ≤ 57 := by
  unfold dgt
  split
  · rename_i q; exact h i q
  · omega
/-- The number of k digits from a place on. -/
def dvA (s : ByteArray) (a : Nat) : Nat → Nat
  | 0 => 0
  | k + 1 => dvA s a k * 10 + (dgt s (a + k) - 48)
theorem dvA_succ (s : ByteArray) (a k : Nat) : dvA s a (k + 1) = dvA s a k * 10 + (dgt s (a + k) - 48) := rfl
theorem dvA_add (s : ByteArray) (a k : Nat) : dvA s 0 (a + k) = dvA s 0 a * 10 ^ k + dvA s a k := by
  induction k with
  | zero => rw [Nat.add_zero, Nat.pow_zero, Nat.mul_one]; rfl
  | succ k ih =>
    rw [← Nat.add_assoc, dvA_succ, dvA_succ, ih, Nat.zero_add, Nat.pow_succ, Nat.add_mul, Nat.mul_assoc]
    omega
theorem dvA_lt {s : ByteArray} (h : DG s) (a k : Nat) : dvA s a k < 10 ^ k := by
  induction k with
  | zero => exact Nat.one_pos
  | succ k ih =>
    have := dgt_dg h (a + k)
    rw [dvA_succ, Nat.pow_succ]
    omega
theorem dvA_same {s t : ByteArray} {a b k : Nat} (h : ∀ i, i < k → dgt s (a + i) = dgt t (b + i)) : dvA s a k = dvA t b k := by
  induction k with
  | zero => rfl
  | succ k ih => rw [dvA_succ, dvA_succ, ih fun i q => h i (by omega), h k (by omega)]
theorem dvA_none {s : ByteArray} {a k : Nat} (h : ∀ i, i < k → dgt s (a + i) = 48) : dvA s a k = 0 := by
  induction k with
  | zero => rfl
  | succ k ih => rw [dvA_succ, ih fun i q => h i (by omega), h k (by omega)]
/-- Without the noughts at its end. -/
theorem no_noughts (s : ByteArray) (n : Nat) : ∃ m, m ≤ n ∧ (∀ i, m ≤ i → i < n → dgt s i = 48) ∧ (m = 0 ∨ dgt s (m - 1) ≠ 48) := by
  induction n with
  | zero => exact ⟨0, Nat.le_refl _, fun i _ q => absurd q (by omega), .inl rfl⟩
  | succ n ih =>
    by_cases c : dgt s n = 48
    · obtain ⟨m, h1, h2, h3⟩ := ih
      refine ⟨m, by omega, fun i p q => ?_, h3⟩
      by_cases z : i = n
      · rw [z]; exact c
      · exact h2 i p (by omega)
    · exact ⟨n + 1, Nat.le_refl _, fun i p q => absurd p (by omega), .inr (by rw [Nat.add_sub_cancel]; exact c)⟩
theorem dgt_row {X K i : Nat} (h : i < K) : dgt (rowText 10 X K) i = 48 + X / 10 ^ (K - 1 - i) % 10 := by
  have hs : i < (rowText 10 X K).size := by rw [rowText_size]; exact h
  rw [dgt_lt hs]
  have l : X / 10 ^ (K - 1 - i) % 10 < 10 := Nat.mod_lt _ (by decide)
  have e : (rowText 10 X K)[i]'hs = UInt8.ofNat (ch (X / 10 ^ (K - 1 - i) % 10)) := by
    unfold rowText strOfNums
    show (List.toArray _)[i]'_ = _
    simp
  rw [e, UInt8.toNat_ofNat']
  unfold ch
  rw [if_pos l]
  exact Nat.mod_eq_of_lt (by omega)
theorem dg_row (X K : Nat) : DG (rowText 10 X K) := by
  intro k h
  have h' : k < K := by rw [rowText_size] at h; exact h
  have e := dgt_row (X := X) h'
  rw [dgt_lt h] at e
  have l : X / 10 ^ (K - 1 - k) % 10 < 10 := Nat.mod_lt _ (by decide)
  omega
theorem dvA_row {X K : Nat} (hX : X < 10 ^ K) : ∀ k, k ≤ K → dvA (rowText 10 X K) 0 k = X / 10 ^ (K - k) := by
  intro k
  induction k with
  | zero => intro _; rw [Nat.sub_zero, Nat.div_eq_of_lt hX]; rfl
  | succ k ih =>
    intro h
    rw [dvA_succ, ih (by omega), Nat.zero_add, dgt_row (by omega), Nat.add_sub_cancel_left, show K - k = K - (k + 1) + 1 from by omega, Nat.pow_succ, ← Nat.div_div_eq_div_mul, show K - 1 - k = K - (k + 1) from by omega]
    omega
/-- A number's text: its first digit is none, and its digits without the noughts at the end. -/
theorem row_first {X K : Nat} (hK : 1 ≤ K) (h0 : 10 ^ (K - 1) ≤ X) (hX : X < 10 ^ K) : dgt (rowText 10 X K) 0 ≠ 48 := by
  rw [dgt_row (by omega), Nat.sub_zero]
  have a : 1 ≤ X / 10 ^ (K - 1) := (Nat.le_div_iff_mul_le (Nat.pow_pos (by decide))).mpr (by rw [Nat.one_mul]; exact h0)
  have b : X / 10 ^ (K - 1) < 10 := by
    rw [Nat.div_lt_iff_lt_mul (Nat.pow_pos (by decide)), Nat.mul_comm, ← Nat.pow_succ, show (K - 1).succ = K from by omega]
    exact hX
  rw [Nat.mod_eq_of_lt b]
  omega
theorem row_cut {X K m : Nat} (hX : X < 10 ^ K) (hm : m ≤ K) (h : ∀ i, m ≤ i → i < K → dgt (rowText 10 X K) i = 48) : X = dvA (rowText 10 X K) 0 m * 10 ^ (K - m) := by
  have a := dvA_row hX K (Nat.le_refl _)
  rw [Nat.sub_self, Nat.pow_zero, Nat.div_one] at a
  have b := dvA_add (rowText 10 X K) m (K - m)
  rw [show m + (K - m) = K from by omega, a, dvA_none fun i q => h (m + i) (by omega) (by omega), Nat.add_zero] at b
  exact b
theorem dgt_pre {s : ByteArray} {m i : Nat} (hm : m ≤ s.size) (h : i < m) : dgt (s.extract 0 m) i = dgt s i := by
  have hs : i < (s.extract 0 m).size := by rw [ByteArray.size_extract]; omega
  rw [dgt_lt hs, dgt_lt (by omega : i < s.size)]
  congr 1
  rw [ByteArray.getElem_extract]
  congr 1
  omega
theorem dgt_sub {s : ByteArray} {a b i : Nat} (hb : b ≤ s.size) (h : i < b - a) : dgt (s.extract a b) i = dgt s (a + i) := by
  have hs : i < (s.extract a b).size := by rw [ByteArray.size_extract]; omega
  rw [dgt_lt hs, dgt_lt (by omega : a + i < s.size)]
  congr 1
  rw [ByteArray.getElem_extract]
/-- A power of ten, by digits of 32 bits. -/
theorem fits_ten {X k n : Nat} (h : X ≤ 10 ^ k) (hn : 4 * k < 32 * n) : Fits n X := by
  refine (two_fits (s := 4 * k) hn).le (Nat.le_trans h ?_)
  rw [Nat.pow_mul]
  exact Nat.pow_le_pow_left (by decide) k
/-- The same number, by its digits or by itself. -/
theorem frac_same {f T : Nat} (hf : 0 < f) {L : Int} {X A K m : Nat} {e E : Int} {c : Bool} (h : X = A * 10 ^ (K - m)) (hm : m ≤ K) (hE : E = (K : Int) + e - m) : rdA f T L (A * 10 ^ E.toNat) (10 ^ (-E).toNat) 0 c = rdA f T L (X * 10 ^ e.toNat) (10 ^ (-e).toNat) 0 c := by
  refine rdA_same hf (ten_ne _) (ten_ne _) ?_
  have q : A * 10 ^ E.toNat * 10 ^ (-e).toNat = X * 10 ^ e.toNat * 10 ^ (-E).toNat := by
    rw [h, Nat.mul_assoc, Nat.mul_assoc, Nat.mul_assoc, ← Nat.pow_add, ← Nat.pow_add, ← Nat.pow_add]
    congr 2
    omega
  rw [q]
  exact ⟨0, Int.le_refl _, Int.le_refl _, rfl⟩
end Go.Proofs.YtfoaeholbidngaaGreatDoor
