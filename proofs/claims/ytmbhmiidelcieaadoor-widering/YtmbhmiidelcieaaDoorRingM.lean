/-
  Plain arithmetic: what is cut by a shift down and up again; the order and the difference of numbers of two words.
-/
import Derived.Test.YtmbhmiidelcieaaDoorDivW
import Derived.Test.YtmbhmiidelcieaaDoorShM2
namespace Go.Proofs.YtmbhmiidelcieaaDoor
open Go.RowKit

theorem cmp_val (x y : Nat) : cmp (hiW x) (loW x) (hiW y) (loW y) = if x < y then -1 else if y < x then 1 else 0 := by
  unfold cmp hiW loW
  split <;> split <;> (try split) <;> (try split) <;> (try split) <;> (try split) <;> omega
theorem sub_val {x y : Nat} (hx : x < 340282366920938463463374607431768211456) (h : y ≤ x) : dHi (hiW x) (loW x) (hiW y) (loW y) = hiW (x - y) ∧ dLo (loW x) (loW y) = loW (x - y) := by
  unfold dHi dLo s3Lo s3B hiW loW
  constructor
  · split <;> omega
  · omega

/-- What a shift down leaves, shifted up again. -/
theorem up_down (v : Nat) (hv : v < 340282366920938463463374607431768211456) (n : Int) : shl (shr v n) n = v / 2 ^ n.toNat * 2 ^ n.toNat ∧ v - shl (shr v n) n = v % 2 ^ n.toNat ∧ shl (shr v n) n ≤ v := by
  have d := Nat.div_add_mod v (2 ^ n.toNat)
  have e : shl (shr v n) n = v / 2 ^ n.toNat * 2 ^ n.toNat := by
    unfold shl shr
    exact Nat.mod_eq_of_lt (Nat.lt_of_le_of_lt (Nat.div_mul_le_self _ _) hv)
  rw [e, Nat.mul_comm (v / 2 ^ n.toNat)]
  exact ⟨rfl, by omega, by omega⟩

theorem one_up {n : Int} (h1 : n < 128) : shl 1 n = 2 ^ n.toNat := by
  unfold shl
  rw [Nat.one_mul]
  refine Nat.mod_eq_of_lt ?_
  have : 2 ^ n.toNat < 2 ^ 128 := (Nat.pow_lt_pow_iff_right (by omega : 1 < 2)).mpr (by omega)
  exact this

/-- All that the shifts' part of the statement asks: k is what goes down and up again, r what is cut. -/
theorem ring_shift {h l : Int} (h1 : Word h) (h2 : Word l) {n : Int} (hn : n < 128) :
    dHi h l (hiW (shl (shr (val h l) n) n)) (loW (shl (shr (val h l) n) n)) = hiW (val h l % 2 ^ n.toNat) ∧ dLo l (loW (shl (shr (val h l) n) n)) = loW (val h l % 2 ^ n.toNat) ∧
    cutB (val h l) n = !(hiW (val h l % 2 ^ n.toNat) == 0 && loW (val h l % 2 ^ n.toNat) == 0) ∧
    cmp (hiW (shl (shr (val h l) n) n)) (loW (shl (shr (val h l) n) n)) h l ≤ 0 ∧
    cmp (hiW (val h l % 2 ^ n.toNat)) (loW (val h l % 2 ^ n.toNat)) (hiW (shl (val 0 1) n)) (loW (shl (val 0 1) n)) < 0 := by
  have hv := val_lt h1 h2
  have a := hiW_val h1 h2
  have b := loW_val h1 h2
  obtain ⟨e1, e2, e3⟩ := up_down (val h l) hv n
  have s := sub_val hv e3
  rw [a, b, e2] at s
  refine ⟨s.1, s.2, ?_, ?_, ?_⟩
  · unfold cutB
    generalize val h l % 2 ^ n.toNat = r
    unfold hiW loW
    rw [Bool.eq_iff_iff]
    simp
    omega
  · have c := cmp_val (shl (shr (val h l) n) n) (val h l)
    rw [a, b] at c
    rw [c]
    split
    · omega
    · rw [if_neg (by omega)]; omega
  · have v1 : val 0 1 = 1 := by decide
    rw [v1, one_up hn, cmp_val, if_pos (Nat.mod_lt _ (Nat.pow_pos (by omega)))]
    omega

end Go.Proofs.YtmbhmiidelcieaaDoor
