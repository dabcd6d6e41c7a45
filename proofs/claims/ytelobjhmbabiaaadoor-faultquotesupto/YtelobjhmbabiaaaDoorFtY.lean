/-
  The document's Unquote: what it answers for every text.
-/
import Derived.Test.YtelobjhmbabiaaaDoorFtR
namespace Go.Proofs.YtelobjhmbabiaaaDoor
open Go.RowKit

def dg16 (c : UInt8) : Nat := if 48 ≤ c.toNat ∧ c.toNat ≤ 57 then c.toNat - 48 else if 97 ≤ c.toNat ∧ c.toNat ≤ 102 then c.toNat - 87 else 16
theorem dg16_le (c : UInt8) : dg16 c ≤ 16 := by unfold dg16; split; omega; split <;> omega
theorem dg16_hi (d : UInt8) : dg16 (hx (d >>> 4)) = (d >>> 4).toNat := by revert d; refine all8 ?_; decide +kernel
theorem dg16_lo (d : UInt8) : dg16 (hx (d &&& 15)) = (d &&& 15).toNat := by revert d; refine all8 ?_; decide +kernel

set_option maxRecDepth 100000 in
set_option maxHeartbeats 1000000 in
theorem digit_any (c : UInt8) (w : World) : Calls Tryd.prog 37 #[.int .u8 (c.toNat : Int)] w fun e w' => e = .returned (.int .u8 (dg16 c : Int)) ∧ w' = w := by
  obtain ⟨R, hR⟩ : ∃ R, dg16 c = R := ⟨_, rfl⟩
  rw [hR]
  have hc := c.toNat_lt
  unfold dg16 at hR
  generalize c.toNat = x at *
  by_cases h1 : 48 ≤ x ∧ x ≤ 57
  · rw [if_pos h1] at hR
    have a1 : ¬ (x : Int) < 48 := by omega
    have a2 : ¬ (57 : Int) < (x : Int) := by omega
    have a3 : IntKind.u8.wrap ((x : Int) - 48) = (R : Int) := by rw [IntKind.wrap_u8]; omega
    go_enter Tryd.func37, Tryd.ntmps37
    go_wp2
    go_ret
    exact ⟨rfl, rfl⟩
  · rw [if_neg h1] at hR
    by_cases h2 : 97 ≤ x ∧ x ≤ 102
    · rw [if_pos h2] at hR
      have a1 : ¬ (x : Int) < 48 := by omega
      have a2 : (57 : Int) < (x : Int) := by omega
      have a3 : ¬ (x : Int) < 97 := by omega
      have a4 : ¬ (102 : Int) < (x : Int) := by omega
      obtain ⟨y, hy⟩ : ∃ y : Nat, x = y + 97 := ⟨x - 97, by omega⟩
      have a5 : IntKind.u8.wrap ((x : Int) - 97) = (y : Int) := by rw [IntKind.wrap_u8]; omega
      have a6 : IntKind.u8.wrap ((y : Int) + 10) = (R : Int) := by rw [IntKind.wrap_u8]; omega
      clear hy h1 h2
      go_enter Tryd.func37, Tryd.ntmps37
      go_wp2
      go_ret
      exact ⟨rfl, rfl⟩
    · rw [if_neg h2] at hR
      subst hR
      by_cases h3 : x < 48
      · have a1 : (x : Int) < 48 := by omega
        have a3 : (x : Int) < 97 := by omega
        clear h1 h2 h3
        go_enter Tryd.func37, Tryd.ntmps37
        go_wp2
        go_ret
        exact ⟨rfl, rfl⟩
      · have a1 : ¬ (x : Int) < 48 := by omega
        have a2 : (57 : Int) < (x : Int) := by omega
        by_cases h4 : x < 97
        · have a3 : (x : Int) < 97 := by omega
          clear h1 h2 h3 h4
          go_enter Tryd.func37, Tryd.ntmps37
          go_wp2
          go_ret
          exact ⟨rfl, rfl⟩
        · have a3 : ¬ (x : Int) < 97 := by omega
          have a4 : (102 : Int) < (x : Int) := by omega
          clear h1 h2 h3 h4
          go_enter Tryd.func37, Tryd.ntmps37
          go_wp2
          go_ret
          exact ⟨rfl, rfl⟩

/-- What a row of told bytes begins with. -/
theorem inv_head {r t : List UInt8} {c : UInt8} {r' : List UInt8} (h : r = qIn t) (hr : r = c :: r') : ∃ d t', t = d :: t' ∧ c :: r' = esc d ++ qIn t' := by
  obtain ⟨d, t', rfl, e⟩ := qIn_head h (by rw [hr]; simp)
  exact ⟨d, t', rfl, by rw [← hr, e]⟩
theorem inv1 {t r' : List UInt8} {c : UInt8} (h : c :: r' = qIn t) (hc : c ≠ 92) : ∃ t', t = c :: t' ∧ r' = qIn t' := by
  obtain ⟨d, t', rfl, e⟩ := inv_head h rfl
  rcases esc_cases d with ⟨_, _, q, _⟩ | ⟨_, _, q, _⟩ | ⟨_, q⟩ <;> rw [q] at e
  · obtain ⟨rfl, e2⟩ := List.cons.inj e
    exact ⟨t', rfl, e2⟩
  · exact absurd (List.cons.inj e).1 hc
  · exact absurd (List.cons.inj e).1 hc
theorem inv2 {t r' : List UInt8} {c : UInt8} (h : 92 :: c :: r' = qIn t) (hc : c = 34 ∨ c = 92) : ∃ t', t = c :: t' ∧ r' = qIn t' := by
  obtain ⟨d, t', rfl, e⟩ := inv_head h rfl
  rcases esc_cases d with ⟨_, _, q, n⟩ | ⟨_, _, q, _⟩ | ⟨_, q⟩ <;> rw [q] at e
  · exact absurd (List.cons.inj e).1.symm n
  · obtain ⟨rfl, e2⟩ := List.cons.inj (List.cons.inj e).2
    exact ⟨t', rfl, e2⟩
  · have := (List.cons.inj (List.cons.inj e).2).1
    rw [this] at hc
    exact absurd hc (by decide)
theorem inv3 {t r' : List UInt8} {c : UInt8} (h : 92 :: c :: r' = qIn t) (hc : ¬ (c = 34 ∨ c = 92)) : c = 120 ∧ ∃ d t', t = d :: t' ∧ r' = hx (d >>> 4) :: hx (d &&& 15) :: qIn t' := by
  obtain ⟨d, t', rfl, e⟩ := inv_head h rfl
  rcases esc_cases d with ⟨_, _, q, n⟩ | ⟨_, s, q, _⟩ | ⟨_, q⟩ <;> rw [q] at e
  · exact absurd (List.cons.inj e).1.symm n
  · obtain ⟨rfl, e2⟩ := List.cons.inj (List.cons.inj e).2
    unfold specB at s
    simp only [Bool.or_eq_true, decide_eq_true_eq] at s
    exact absurd s hc
  · obtain ⟨e1, e2⟩ := List.cons.inj (List.cons.inj e).2
    exact ⟨e1, d, t', rfl, e2⟩
theorem inv4 {t : List UInt8} (h : [92] = qIn t) : False := by
  obtain ⟨d, t', rfl, e⟩ := inv_head h rfl
  rcases esc_cases d with ⟨_, _, q, n⟩ | ⟨_, _, q, _⟩ | ⟨_, q⟩ <;> rw [q] at e
  · exact absurd (List.cons.inj e).1.symm n
  · cases (List.cons.inj e).2
  · cases (List.cons.inj e).2
end Go.Proofs.YtelobjhmbabiaaaDoor
