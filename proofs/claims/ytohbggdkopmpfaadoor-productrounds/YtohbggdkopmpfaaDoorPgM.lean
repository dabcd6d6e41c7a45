/-
  What powers.whole and fraction reckon: a power of ten, cut off behind 128 bits. (Plain mathematics.)
-/
import Derived.Test.YtohbggdkopmpfaaDoorPgB
namespace Go.Proofs.YtohbggdkopmpfaaDoor
open Go.RowKit

theorem hiW_word {v : Nat} (h : v < 340282366920938463463374607431768211456) : Word (hiW v) := by
  unfold Word hiW; omega
theorem loW_word (v : Nat) : Word (loW v) := by unfold Word loW; omega
theorem val_hl (v : Nat) : val (hiW v) (loW v) = v := by
  unfold val hiW loW; omega
theorem ldz_nat {X : Nat} (h0 : X ≠ 0) (h : X < 2 ^ 128) : ldz (hiW X) (loW X) = 128 - (bl X : Int) := by
  rw [show 2 ^ 128 = 340282366920938463463374607431768211456 from rfl] at h
  unfold ldz
  by_cases c : hiW X = 0
  · rw [if_pos c]
    unfold hiW at c
    have e : loW X = (X : Int) := by unfold loW; omega
    rw [e]
    obtain ⟨n, e1, e2, e3, e4⟩ := blen_bounds (X : Int) (by omega) (by omega)
    rw [pow_cast] at e3 e4
    rw [e1, bl_of (L := n) (by omega) (by omega)]
    omega
  · rw [if_neg c]
    have w := hiW_word h
    unfold Word at w
    obtain ⟨n, e1, e2, e3, e4⟩ := blen_bounds (hiW X) (by omega) w.2
    rw [pow_cast] at e3 e4
    have a1 : 2 ^ (n + 64) ≤ X := by
      unfold hiW at e3
      rw [Nat.pow_add, show 2 ^ 64 = 18446744073709551616 from rfl]
      generalize 2 ^ n = t at *
      omega
    have a2 : X < 2 ^ (n + 64 + 1) := by
      unfold hiW at e4
      rw [show n + 64 + 1 = n + 1 + 64 from by omega, Nat.pow_add, show 2 ^ 64 = 18446744073709551616 from rfl]
      generalize 2 ^ (n + 1) = t at *
      omega
    rw [e1, bl_of a1 a2]
    omega
theorem bl_div {X D : Nat} (h0 : X ≠ 0) (h : D < bl X) : bl (X / 2 ^ D) = bl X - D := by
  have a := bl_le h0
  have b := bl_lt X
  have p := Nat.two_pow_pos D
  have r : bl (X / 2 ^ D) = (bl X - 1 - D) + 1 := by
    refine bl_of ?_ ?_
    · rw [Nat.le_div_iff_mul_le p, ← Nat.pow_add, show bl X - 1 - D + D = bl X - 1 from by omega]
      exact a
    · rw [Nat.div_lt_iff_lt_mul p, ← Nat.pow_add, show bl X - 1 - D + 1 + D = bl X from by omega]
      exact b
  omega
/-- What whole reckons. -/
theorem whole_pw {n ov top room : Nat} (ho : ov = bl (5 ^ n) - 128) (ht : top = 5 ^ n / 2 ^ ov) (hr : room = 128 - bl top) :
    top ≠ 0 ∧ top < 2 ^ 128 ∧ bl top ≤ 128 ∧ top * 2 ^ room < 2 ^ 128 ∧ Pw (n : Int) (top * 2 ^ room) ((n : Int) + ov - room) ∧ (5 ^ n % 2 ^ ov = 0 ↔ ((0 : Int) ≤ n ∧ (n : Int) ≤ 55)) := by
  have x0 : 5 ^ n ≠ 0 := Nat.ne_of_gt (Nat.pow_pos (by omega))
  have bp := bl_pos x0
  have b1 := bl_le x0
  have b2 := bl_lt (5 ^ n)
  have bt : bl top = bl (5 ^ n) - ov := by rw [ht]; exact bl_div x0 (by omega)
  have t0 : top ≠ 0 := by
    intro z
    rw [z, show bl 0 = 0 from rfl] at bt
    omega
  have tl := bl_lt top
  have tg := bl_le t0
  have tb : bl top ≤ 128 := by omega
  have m2 : top * 2 ^ room < 2 ^ 128 := by
    have := Nat.mul_lt_mul_of_pos_right tl (Nat.two_pow_pos room)
    rw [← Nat.pow_add, show bl top + room = 128 from by omega] at this
    exact this
  have m1 : 2 ^ 127 ≤ top * 2 ^ room := by
    have := Nat.mul_le_mul_right (2 ^ room) tg
    have tp := bl_pos t0
    rw [← Nat.pow_add, show bl top - 1 + room = 127 from by omega] at this
    exact this
  refine ⟨t0, Nat.lt_of_lt_of_le tl (Nat.pow_le_pow_right (by omega) tb), tb, m2, ?_⟩
  rcases Nat.eq_zero_or_pos ov with z | z
  · have e : top = 5 ^ n := by rw [ht, z, Nat.pow_zero, Nat.div_one]
    obtain ⟨p, x⟩ := pw_quo (e := (n : Int)) (s := (room : Int)) (M := top * 2 ^ room) (r := 0) m1 m2 (by rw [show (-(n : Int)).toNat = 0 from by omega, show (-(room : Int)).toNat = 0 from by omega]; decide) (by
      rw [Int.toNat_natCast, Int.toNat_natCast, show (-(n : Int)).toNat = 0 from by omega, show (-(room : Int)).toNat = 0 from by omega, e]
      simp only [Nat.pow_zero, Nat.mul_one, Nat.add_zero])
    rw [show (n : Int) + ov - room = (n : Int) - room from by omega]
    refine ⟨p, ?_⟩
    rw [z, Nat.pow_zero, Nat.mod_one, ← pw_exact p, x]
  · have r0 : room = 0 := by omega
    have e : top * 2 ^ room = top := by rw [r0, Nat.pow_zero, Nat.mul_one]
    rw [e] at m1 m2 ⊢
    have dm := Nat.div_add_mod (5 ^ n) (2 ^ ov)
    obtain ⟨p, x⟩ := pw_quo (e := (n : Int)) (s := -(ov : Int)) (M := top) (r := 5 ^ n % 2 ^ ov) m1 m2 (by
      rw [show (-(n : Int)).toNat = 0 from by omega, show (- -(ov : Int)).toNat = ov from by omega, Nat.pow_zero, Nat.one_mul]; exact Nat.mod_lt _ (Nat.two_pow_pos ov)) (by
      rw [Int.toNat_natCast, show (-(n : Int)).toNat = 0 from by omega, show (-(ov : Int)).toNat = 0 from by omega, show (- -(ov : Int)).toNat = ov from by omega]
      simp only [Nat.pow_zero, Nat.one_mul, Nat.mul_one]
      rw [ht, Nat.mul_comm]
      exact dm.symm)
    rw [show (n : Int) + ov - room = (n : Int) - -(ov : Int) from by omega]
    exact ⟨p, by rw [← pw_exact p, x]⟩
/-- What fraction reckons. -/
theorem fraction_pw {n sh : Nat} (n0 : 0 < n) (hs : sh = 127 + bl (5 ^ n)) : 2 ^ sh / 5 ^ n < 2 ^ 128 ∧ Pw (-(n : Int)) (2 ^ sh / 5 ^ n) (-(n : Int) - sh) := by
  have p5 : 0 < 5 ^ n := Nat.pow_pos (by omega)
  have x0 : 5 ^ n ≠ 0 := by omega
  have bp := bl_pos x0
  have b1 := bl_le x0
  have b2 := bl_lt (5 ^ n)
  have ne : 2 ^ (bl (5 ^ n) - 1) ≠ 5 ^ n := by
    intro q
    have o := two_five (bl (5 ^ n) - 1)
    rw [q, show n = n - 1 + 1 from by omega, Nat.pow_succ] at o
    omega
  have m2 : 2 ^ sh / 5 ^ n < 2 ^ 128 := by
    rw [Nat.div_lt_iff_lt_mul p5, hs, show 127 + bl (5 ^ n) = 128 + (bl (5 ^ n) - 1) from by omega, Nat.pow_add]
    exact Nat.mul_lt_mul_of_pos_left (by omega) (by decide)
  have m1 : 2 ^ 127 ≤ 2 ^ sh / 5 ^ n := by
    rw [Nat.le_div_iff_mul_le p5, hs, Nat.pow_add]
    exact Nat.mul_le_mul_left _ (Nat.le_of_lt b2)
  refine ⟨m2, (pw_quo (e := -(n : Int)) (s := (sh : Int)) (r := 2 ^ sh % 5 ^ n) m1 m2 ?_ ?_).1⟩
  · rw [show (- -(n : Int)).toNat = n from by omega, show (-(sh : Int)).toNat = 0 from by omega, Nat.pow_zero, Nat.mul_one]
    exact Nat.mod_lt _ p5
  · rw [show (- -(n : Int)).toNat = n from by omega, show (-(sh : Int)).toNat = 0 from by omega, show (-(n : Int)).toNat = 0 from by omega, Int.toNat_natCast]
    simp only [Nat.pow_zero, Nat.one_mul, Nat.mul_one]
    rw [Nat.mul_comm]
    exact (Nat.div_add_mod _ _).symm

theorem shl_of {M top room : Nat} (h : M = top * 2 ^ room) (hm : M < 2 ^ 128) (r : Int) (hr : r = room) : shl (val (hiW top) (loW top)) r = M := by
  unfold shl
  rw [val_hl, hr, Int.toNat_natCast, ← h]
  exact Nat.mod_eq_of_lt hm

end Go.Proofs.YtohbggdkopmpfaaDoor
