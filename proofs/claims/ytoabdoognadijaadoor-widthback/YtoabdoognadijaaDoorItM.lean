/-
  Integers of a sign and a magnitude; a text's sign: mathematics.
-/
import Derived.Test.YtoabdoognadijaaDoorUiN
namespace Go.Proofs.YtoabdoognadijaaDoor

/-- The sign that is told ahead of the digits. -/
def mrk (v : Int) (plus : Bool) : List UInt8 := if v < 0 then [45] else if plus then [43] else []
theorem mrk_neg {v : Int} (h : v < 0) (p : Bool) : mrk v p = [45] := by unfold mrk; rw [if_pos h]
theorem mrk_plus {v : Int} (h : ¬ v < 0) : mrk v true = [43] := by unfold mrk; rw [if_neg h, if_pos rfl]
theorem mrk_none {v : Int} (h : ¬ v < 0) : mrk v false = [] := by unfold mrk; rw [if_neg h, if_neg (by decide)]
theorem mrk_len (v : Int) (p : Bool) : (mrk v p).length ≤ 1 := by
  unfold mrk; split
  · simp
  · split <;> simp
/-- Is there an integer of that sign and magnitude? -/
def mkB (neg : Bool) (n : Nat) : Bool := if neg then decide (n ≤ 9223372036854775808) else decide (n < 9223372036854775808)
/-- The integer of that sign and magnitude, 0 where there is none. -/
def mkX (neg : Bool) (n : Nat) : Int := if mkB neg n then (if neg then -(n : Int) else (n : Int)) else 0
/-- The nearest one. -/
def nrX (neg : Bool) (n : Nat) : Int := if mkB neg n then mkX neg n else if neg then -9223372036854775808 else 9223372036854775807
def nrE (neg : Bool) (n : Nat) : Nat := if mkB neg n then 0 else 4
theorem mkX_neg {n : Nat} (h : n ≤ 9223372036854775808) : mkB true n = true ∧ mkX true n = -(n : Int) := by
  have e : mkB true n = true := by unfold mkB; rw [if_pos rfl]; exact decide_eq_true h
  exact ⟨e, by unfold mkX; rw [if_pos e, if_pos rfl]⟩
theorem mkX_pos {n : Nat} (h : n < 9223372036854775808) : mkB false n = true ∧ mkX false n = (n : Int) := by
  have e : mkB false n = true := by unfold mkB; rw [if_neg (by decide)]; exact decide_eq_true h
  exact ⟨e, by unfold mkX; rw [if_pos e, if_neg (by decide)]⟩
theorem mkB_neg {n : Nat} : mkB true n = decide (n ≤ 9223372036854775808) := by unfold mkB; rw [if_pos rfl]
theorem mkB_pos {n : Nat} : mkB false n = decide (n < 9223372036854775808) := by unfold mkB; rw [if_neg (by decide)]
theorem mkX_no {neg : Bool} {n : Nat} (h : mkB neg n = false) : mkX neg n = 0 := by unfold mkX; rw [if_neg (by rw [h]; decide)]
theorem nr_yes {neg : Bool} {n : Nat} (h : mkB neg n = true) : nrX neg n = mkX neg n ∧ nrE neg n = 0 := by unfold nrX nrE; rw [if_pos h, if_pos h]; exact ⟨rfl, rfl⟩
theorem nr_no {neg : Bool} {n : Nat} (h : mkB neg n = false) : nrX neg n = (if neg then -9223372036854775808 else 9223372036854775807) ∧ nrE neg n = 4 := by
  have q : ¬ mkB neg n = true := by rw [h]; decide
  unfold nrX nrE; rw [if_neg q, if_neg q]; exact ⟨rfl, rfl⟩
theorem mk_abs {v : Int} (h1 : -9223372036854775808 ≤ v) (h2 : v ≤ 9223372036854775807) : mkB (decide (v < 0)) v.natAbs = true ∧ mkX (decide (v < 0)) v.natAbs = v := by
  by_cases q : v < 0
  · rw [decide_eq_true q]
    have := mkX_neg (n := v.natAbs) (by omega)
    exact ⟨this.1, by rw [this.2]; omega⟩
  · rw [decide_eq_false q]
    have := mkX_pos (n := v.natAbs) (by omega)
    exact ⟨this.1, by rw [this.2]; omega⟩
theorem abs_lt {v : Int} (h1 : -9223372036854775808 ≤ v) (h2 : v ≤ 9223372036854775807) : v.natAbs < 18446744073709551616 := by omega

/-- A text's sign: is it a minus, and how long is it? -/
def sgN (l : List UInt8) : Bool := decide (l.head? = some 45)
def sgL (l : List UInt8) : Nat := if l.head? = some 45 ∨ l.head? = some 43 then 1 else 0
theorem sgL_le (l : List UInt8) : sgL l ≤ l.length := by
  unfold sgL
  cases l with
  | nil => rw [if_neg (by simp)]; exact Nat.le_refl _
  | cons c r => split <;> simp
theorem sgL_le1 (l : List UInt8) : sgL l ≤ 1 := by unfold sgL; split <;> omega
theorem sg_nil : sgN [] = false ∧ sgL [] = 0 := by decide
theorem sg_minus (r : List UInt8) : sgN (45 :: r) = true ∧ sgL (45 :: r) = 1 := by
  unfold sgN sgL; exact ⟨by simp, by simp⟩
theorem sg_plus (r : List UInt8) : sgN (43 :: r) = false ∧ sgL (43 :: r) = 1 := by
  unfold sgN sgL; exact ⟨by simp, by simp⟩
theorem sg_none {c : UInt8} (r : List UInt8) (h1 : c ≠ 45) (h2 : c ≠ 43) : sgN (c :: r) = false ∧ sgL (c :: r) = 0 := by
  unfold sgN sgL; exact ⟨by simp [h1], by simp [h1, h2]⟩
end Go.Proofs.YtoabdoognadijaaDoor
