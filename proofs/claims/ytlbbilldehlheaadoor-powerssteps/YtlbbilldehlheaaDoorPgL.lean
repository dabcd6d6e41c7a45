/-
  Logarithms as whole numbers: how many digits powers of two and of ten have ahead of their points, from -1100 to 1100. (Plain mathematics, by reckoning all.)
-/
import Derived.Test.YtlbbilldehlheaaDoorPwO
namespace Go.Proofs.YtlbbilldehlheaaDoor

def okD (k : Nat) : Bool := decide (10 ^ (k * 1292913986 / 4294967296) ≤ 2 ^ k) && decide (2 ^ k < 10 ^ (k * 1292913986 / 4294967296 + 1))
def okN (k : Nat) : Bool := decide ((k * 1292913986 + 4294967295) / 4294967296 ≤ k) && decide (10 ^ (k - (k * 1292913986 + 4294967295) / 4294967296) ≤ 5 ^ k) && decide (5 ^ k < 10 ^ (k - (k * 1292913986 + 4294967295) / 4294967296 + 1))
def okB (k : Nat) : Bool := decide (2 ^ (k * 14267572527 / 4294967296) ≤ 10 ^ k) && decide (10 ^ k < 2 ^ (k * 14267572527 / 4294967296 + 1))
def okM (k : Nat) : Bool := decide (k = 0) || (decide (2 ^ ((k * 14267572527 - 1) / 4294967296) < 10 ^ k) && decide (10 ^ k < 2 ^ ((k * 14267572527 - 1) / 4294967296 + 1)))
theorem okD_all : (List.range 1101).all okD = true := by decide +kernel
theorem okN_all : (List.range 1101).all okN = true := by decide +kernel
theorem okB_all : (List.range 1101).all okB = true := by decide +kernel
theorem okM_all : (List.range 1101).all okM = true := by decide +kernel
theorem ok_at {p : Nat → Bool} {n k : Nat} (h : (List.range n).all p = true) (hk : k < n) : p k = true := List.all_eq_true.1 h k (List.mem_range.2 hk)

theorem td_log (n : Int) (h1 : -1100 ≤ n) (h2 : n ≤ 1100) : Td n (n * 1292913986 / 4294967296 + 1) := by
  rcases Int.lt_or_le n 0 with c | c
  · obtain ⟨k, hk⟩ : ∃ k : Nat, n = -(k : Int) := ⟨(-n).toNat, by omega⟩
    subst hk
    have q := ok_at okN_all (show k < 1101 by omega)
    unfold okN at q
    simp only [Bool.and_eq_true, decide_eq_true_eq] at q
    obtain ⟨⟨q0, q1⟩, q2⟩ := q
    have t := td_neg (k := k) (l := k - (k * 1292913986 + 4294967295) / 4294967296 + 1) (by omega) (by rw [Nat.add_sub_cancel]; exact q1) q2
    have e : -(k : Int) * 1292913986 / 4294967296 + 1 = ((k - (k * 1292913986 + 4294967295) / 4294967296 + 1 : Nat) : Int) - (k : Int) := by omega
    rw [e]
    exact t
  · obtain ⟨k, hk⟩ : ∃ k : Nat, n = (k : Int) := ⟨n.toNat, by omega⟩
    subst hk
    have q := ok_at okD_all (show k < 1101 by omega)
    unfold okD at q
    simp only [Bool.and_eq_true, decide_eq_true_eq] at q
    have t := td_pos (n := k) (l := k * 1292913986 / 4294967296 + 1) (by omega) (by rw [Nat.add_sub_cancel]; exact q.1) q.2
    have e : (k : Int) * 1292913986 / 4294967296 + 1 = ((k * 1292913986 / 4294967296 + 1 : Nat) : Int) := by omega
    rw [e]
    exact t
theorem fst_log (n : Int) (h1 : -1100 ≤ n) (h2 : n ≤ 1100) : Fst (pN n) (pD n) (n * 14267572527 / 4294967296) := by
  rcases Int.lt_or_le n 0 with c | c
  · obtain ⟨k, hk⟩ : ∃ k : Nat, n = -(k : Int) := ⟨(-n).toNat, by omega⟩
    subst hk
    have q := ok_at okM_all (show k < 1101 by omega)
    unfold okM at q
    simp only [Bool.or_eq_true, Bool.and_eq_true, decide_eq_true_eq] at q
    have q' := q.resolve_left (by omega)
    have t := fst_tenth q'.1 q'.2
    have e : -(k : Int) * 14267572527 / 4294967296 = -(((k * 14267572527 - 1) / 4294967296 : Nat) : Int) - 1 := by omega
    rw [e]
    exact t
  · obtain ⟨k, hk⟩ : ∃ k : Nat, n = (k : Int) := ⟨n.toNat, by omega⟩
    subst hk
    have q := ok_at okB_all (show k < 1101 by omega)
    unfold okB at q
    simp only [Bool.and_eq_true, decide_eq_true_eq] at q
    have t := fst_ten q.1 q.2
    have e : (k : Int) * 14267572527 / 4294967296 = ((k * 14267572527 / 4294967296 : Nat) : Int) := by omega
    rw [e]
    exact t
theorem dl_pos {X l : Nat} (h : Dl X l) (x0 : X ≠ 0) : 0 < l ∧ 10 ^ (l - 1) ≤ X ∧ X < 10 ^ l := by
  have p : 0 < l := by
    rcases Nat.eq_zero_or_pos l with z | z
    · subst z
      have := h.1
      rw [Nat.pow_zero] at this
      omega
    · exact z
  exact ⟨p, h.2 p, h.1⟩
end Go.Proofs.YtlbbilldehlheaaDoor
