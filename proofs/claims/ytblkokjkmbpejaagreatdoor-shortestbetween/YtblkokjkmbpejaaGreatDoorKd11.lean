/-
  Holds: VRdM VBtS.
-/
import Derived.Laws.BitsAllLaws
import Derived.Test.YtblkokjkmbpejaaGreatDoorKd3
set_option maxRecDepth 100000
set_option maxHeartbeats 4000000
namespace Go.Proofs.YtblkokjkmbpejaaGreatDoor
theorem mt_succ (f : Nat) (L : Int) (b : Nat) : Eqv (mt f b + 1) (xp f L b) (mt f (b + 1)) (xp f L (b + 1)) := by
 have g := parts_good f L b
 have g' := parts_good f L (b + 1)
 have p := Nat.two_pow_pos f
 have d1 := Nat.div_add_mod b (2 ^ f)
 have d2 := Nat.div_add_mod (b + 1) (2 ^ f)
 have m1 := Nat.mod_lt b p
 have m2 := Nat.mod_lt (b + 1) p
 by_cases c : b % 2 ^ f + 1 < 2 ^ f
 · have e1 : (b + 1) / 2 ^ f = b / 2 ^ f := by
    rw [← d1, Nat.add_assoc, Nat.mul_add_div p, Nat.div_eq_of_lt c, Nat.mul_add_div p, Nat.div_eq_of_lt m1]
   have e2 : (b + 1) % 2 ^ f = b % 2 ^ f + 1 := by
    rw [← d1, Nat.add_assoc, Nat.mul_add_mod, Nat.mod_eq_of_lt c, Nat.mul_add_mod, Nat.mod_mod]
   have e3 : mt f (b + 1) = mt f b + 1 := by
    unfold mt
    rw [e1, e2]
    split
    · rfl
    · omega
   have e4 : xp f L (b + 1) = xp f L b := by
    unfold xp
    rw [e1]
   rw [e3, e4]
   exact Eqv.rfl' _ _
 · have c' : b % 2 ^ f + 1 = 2 ^ f := Nat.le_antisymm m1 (Nat.not_lt.1 c)
   have e1 : (b + 1) / 2 ^ f = b / 2 ^ f + 1 := by
    rw [← d1, Nat.add_assoc, c', ← Nat.mul_succ, Nat.mul_div_cancel_left _ p, Nat.mul_add_div p, Nat.div_eq_of_lt m1]
   have e2 : (b + 1) % 2 ^ f = 0 := by
    rw [← d1, Nat.add_assoc, c', ← Nat.mul_succ, Nat.mul_mod_right]
   have e3 : mt f (b + 1) = 2 ^ f := by
    unfold mt
    rw [e1, e2, if_neg (Nat.succ_ne_zero _), Nat.zero_add]
   by_cases z : b / 2 ^ f = 0
   · have e4 : mt f b + 1 = 2 ^ f := by
      unfold mt
      rw [if_pos z]
      rw [z, Nat.mul_zero, Nat.zero_add] at d1
      omega
     have e5 : xp f L b = xp f L (b + 1) := by
      unfold xp
      rw [e1, if_pos z, if_neg (Nat.succ_ne_zero _), z]
      omega
     rw [e3, e4, e5]
     exact Eqv.rfl' _ _
   · have e4 : mt f b + 1 = 2 ^ f * 2 := by
      unfold mt
      rw [if_neg z, Nat.add_right_comm, c', Nat.mul_two]
     have e5 : xp f L (b + 1) = xp f L b + 1 := by
      unfold xp
      rw [e1, if_neg z, if_neg (Nat.succ_ne_zero _)]
      generalize b / 2 ^ f = q
      omega
     rw [e3, e4, e5]
     have := Eqv.half (m := 2 ^ f * 2) (xp f L b) (Nat.mul_mod_left _ _)
     rw [Nat.mul_div_cancel _ (by decide)] at this
     exact this
end Go.Proofs.YtblkokjkmbpejaaGreatDoor
namespace Go.Proofs.YtblkokjkmbpejaaGreatDoor
open Go
def mg (g b : Nat) : Nat := b % g
def ng (g b : Nat) : Bool := decide (g ≤ b)
def cl (n m : Nat) : Int := if m = 0 then 1 else if m < n then 2 else if m = n then 3 else 4
def uN (g n b : Nat) : Bool := if cl n (mg g b) = 4 then false else ng g b
def uM (n f m : Nat) : Nat := if cl n m = 2 then mt f m else 0
def uE (n f : Nat) (L : Int) (m : Nat) : Int := if cl n m = 2 then xp f L m else 0
theorem cl_zero (n : Nat) : cl n 0 = 1 := if_pos rfl
theorem cl_fine {n m : Nat} (h0 : m ≠ 0) (h : m < n) : cl n m = 2 := by unfold cl; rw [if_neg h0, if_pos h]
theorem cl_inf {n : Nat} (h0 : n ≠ 0) : cl n n = 3 := by unfold cl; rw [if_neg h0, if_neg (Nat.lt_irrefl n), if_pos rfl]
theorem cl_nan {n m : Nat} (h : n < m) : cl n m = 4 := by unfold cl; rw [if_neg (by omega), if_neg (by omega), if_neg (by omega)]
theorem cl_cases (n m : Nat) : (m = 0 ∧ cl n m = 1) ∨ (m ≠ 0 ∧ m < n ∧ cl n m = 2) ∨ (m ≠ 0 ∧ m = n ∧ cl n m = 3) ∨ (n < m ∧ cl n m = 4) := by
 by_cases h0 : m = 0
 · left; exact ⟨h0, by rw [h0, cl_zero]⟩
 · by_cases h1 : m < n
   · right; left; exact ⟨h0, h1, cl_fine h0 h1⟩
   · by_cases h2 : m = n
     · right; right; left; exact ⟨h0, h2, by rw [h2]; exact cl_inf (by omega)⟩
     · right; right; right; exact ⟨by omega, cl_nan (by omega)⟩
theorem andNot_32 (b : Nat) (h : b < 4294967296) : bits BinOp.andNot IntKind.u64 (b : Int) 2147483648 = ((mg 2147483648 b : Nat) : Int) := by
 have e := u64_andNot_nat b 2147483648 (by omega) (by omega)
 rw [show ((2147483648 : Nat) : Int) = 2147483648 from rfl] at e
 rw [e]
 congr 1
 have a : (b &&& (18446744073709551615 - 2147483648)) % 2 ^ 31 = b % 2 ^ 31 := by
  rw [Nat.and_mod_two_pow, show (18446744073709551615 - 2147483648) % 2 ^ 31 = 2 ^ 31 - 1 by decide, Nat.and_two_pow_sub_one_eq_mod, Nat.mod_mod]
 have d : (b &&& (18446744073709551615 - 2147483648)) / 2 ^ 31 = 0 := by
  rw [Nat.and_div_two_pow, show (18446744073709551615 - 2147483648) / 2 ^ 31 = 8589934590 by decide]
  have c : b / 2 ^ 31 = 0 ∨ b / 2 ^ 31 = 1 := by omega
  rcases c with c | c <;> rw [c] <;> decide
 unfold mg
 generalize b &&& (18446744073709551615 - 2147483648) = q at a d
 omega
theorem andNot_64 (b : Nat) (h : b < 18446744073709551616) : bits BinOp.andNot IntKind.u64 (b : Int) 9223372036854775808 = ((mg 9223372036854775808 b : Nat) : Int) := by
 have e := u64_andNot_nat b 9223372036854775808 (by omega) (by omega)
 rw [show ((9223372036854775808 : Nat) : Int) = 9223372036854775808 from rfl] at e
 rw [e]
 congr 1
 exact Nat.and_two_pow_sub_one_eq_mod b 63
theorem and_sign_32 (b : Nat) (h : b < 4294967296) : bits BinOp.and IntKind.u64 (b : Int) 2147483648 = ((if ng 2147483648 b then 2147483648 else 0 : Nat) : Int) := by
 have e := u64_and_nat b 2147483648 (by omega) (by omega)
 rw [show ((2147483648 : Nat) : Int) = 2147483648 from rfl] at e
 rw [e]
 congr 1
 rw [show 2147483648 = 2 ^ 31 from rfl, nat_bit 31 b]
 unfold ng
 by_cases c : 2 ^ 31 ≤ b
 · rw [decide_eq_true c, if_pos rfl, show b / 2 ^ 31 = 1 by omega]
 · rw [decide_eq_false c, show b / 2 ^ 31 = 0 by omega]; rfl
theorem and_sign_64 (b : Nat) (h : b < 18446744073709551616) : bits BinOp.and IntKind.u64 (b : Int) 9223372036854775808 = ((if ng 9223372036854775808 b then 9223372036854775808 else 0 : Nat) : Int) := by
 have e := u64_and_nat b 9223372036854775808 (by omega) (by omega)
 rw [show ((9223372036854775808 : Nat) : Int) = 9223372036854775808 from rfl] at e
 rw [e]
 congr 1
 rw [show 9223372036854775808 = 2 ^ 63 from rfl, nat_bit 63 b]
 unfold ng
 by_cases c : 2 ^ 63 ≤ b
 · rw [decide_eq_true c, if_pos rfl, show b / 2 ^ 63 = 1 by omega]
 · rw [decide_eq_false c, show b / 2 ^ 63 = 0 by omega]; rfl
theorem or_pow (k x : Nat) (hk : 2 ^ k < 18446744073709551616) (h : x < 2 ^ k) : bits BinOp.or IntKind.u64 (x : Int) ((2 ^ k : Nat) : Int) = ((x + 2 ^ k : Nat) : Int) := by
 rw [u64_or_nat x (2 ^ k) (by omega) hk]
 congr 1
 rw [Nat.or_comm, nat_join k (2 ^ k) x (Nat.mod_self _) h, Nat.add_comm]
theorem or_hid_32 {m : Nat} (h : m < 8388608) : bits BinOp.or IntKind.u64 (m : Int) 8388608 = ((m + 8388608 : Nat) : Int) := or_pow 23 m (by decide) h
theorem or_hid_64 {m : Nat} (h : m < 4503599627370496) : bits BinOp.or IntKind.u64 (m : Int) 4503599627370496 = ((m + 4503599627370496 : Nat) : Int) := or_pow 52 m (by decide) h
theorem and_mask_32 {m : Nat} (h : m < 18446744073709551616) : bits BinOp.and IntKind.u64 (m : Int) 8388607 = ((m % 8388608 : Nat) : Int) := by
 have e := u64_and_nat m 8388607 h (by decide)
 rw [show ((8388607 : Nat) : Int) = 8388607 from rfl] at e
 rw [e]
 congr 1
 exact Nat.and_two_pow_sub_one_eq_mod m 23
theorem and_mask_64 {m : Nat} (h : m < 18446744073709551616) : bits BinOp.and IntKind.u64 (m : Int) 4503599627370495 = ((m % 4503599627370496 : Nat) : Int) := by
 have e := u64_and_nat m 4503599627370495 h (by decide)
 rw [show ((4503599627370495 : Nat) : Int) = 4503599627370495 from rfl] at e
 rw [e]
 congr 1
 exact Nat.and_two_pow_sub_one_eq_mod m 52
theorem mg_lt {g : Nat} (h : 0 < g) (b : Nat) : mg g b < g := Nat.mod_lt b h
end Go.Proofs.YtblkokjkmbpejaaGreatDoor
