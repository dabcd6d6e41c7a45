/-
  Holds: VRdM VBtS VRdV.
-/
import Derived.Laws.BitsAllLaws
import Derived.Test.YtohhmobfmmeohaaGreatDoorKi3
set_option maxRecDepth 100000
set_option maxHeartbeats 4000000
namespace Go.Proofs.YtohhmobfmmeohaaGreatDoor
def vE (n d : Nat) (e : Int) (m : Nat) (x : Int) : Prop := ∃ K, K ≤ e ∧ K ≤ x ∧ ev K n e = d * ev K m x
theorem mul_swap (a b c : Nat) : a * (b * c) = a * b * c := (Nat.mul_assoc a b c).symm
theorem vE.at {n d m : Nat} {e x : Int} (h : vE n d e m x) (K : Int) (h1 : K ≤ e) (h2 : K ≤ x) : ev K n e = d * ev K m x := by
 obtain ⟨K0, a, b, q⟩ := h
 rcases Int.le_total K K0 with c | c
 · rw [ev_at n c a, ev_at m c b, mul_swap, q]
 · rw [ev_at n c h1, ev_at m c h2, mul_swap] at q
   exact Nat.eq_of_mul_eq_mul_right (Nat.two_pow_pos _) q
end Go.Proofs.YtohhmobfmmeohaaGreatDoor
namespace Go.Proofs.YtohhmobfmmeohaaGreatDoor
open Go
def Sn (s : Int) : Prop := s ≠ 32 ∧ s ≠ 64
def mg (g b : Nat) : Nat := b % g
def ng (g b : Nat) : Bool := decide (g ≤ b)
def cl (n m : Nat) : Int := if m = 0 then 1 else if m < n then 2 else if m = n then 3 else 4
def uN (g n b : Nat) : Bool := if cl n (mg g b) = 4 then false else ng g b
def uM (n f m : Nat) : Nat := if cl n m = 2 then mt f m else 0
def uE (n f : Nat) (L : Int) (m : Nat) : Int := if cl n m = 2 then xp f L m else 0
theorem cl_zero (n : Nat) : cl n 0 = 1 := if_pos rfl
theorem cl_fine {n m : Nat} (h0 : m ≠ 0) (h : m < n) : cl n m = 2 := by unfold cl; rw [if_neg h0, if_pos h]
theorem cl_inf {n : Nat} (h0 : n ≠ 0) : cl n n = 3 := by unfold cl; rw [if_neg h0, if_neg (Nat.lt_irrefl n), if_pos rfl]
theorem cl_nan {n m : Nat} (h : n < m) : cl n m = 4 := by unfold cl; rw [if_neg (by omega), if_neg (by omega), if_neg (by omega)]
theorem cl_cases (n m : Nat) : (m = 0 ∧ cl n m = 1) ∨ (m ≠ 0 ∧ m < n ∧ cl n m = 2) ∨ (m ≠ 0 ∧ m = n ∧ cl n m = 3) ∨ (n < m ∧ cl n m = 4) := by
 by_cases h0 : m = 0
 · left; exact ⟨h0, by rw [h0, cl_zero]⟩
 · by_cases h1 : m < n
   · right; left; exact ⟨h0, h1, cl_fine h0 h1⟩
   · by_cases h2 : m = n
     · right; right; left; exact ⟨h0, h2, by rw [h2]; exact cl_inf (by omega)⟩
     · right; right; right; exact ⟨by omega, cl_nan (by omega)⟩
theorem andNot_32 (b : Nat) (h : b < 4294967296) : bits BinOp.andNot IntKind.u64 (b : Int) 2147483648 = ((mg 2147483648 b : Nat) : Int) := by
 have e := u64_andNot_nat b 2147483648 (by omega) (by omega)
 rw [show ((2147483648 : Nat) : Int) = 2147483648 from rfl] at e
 rw [e]
 congr 1
 have a : (b &&& (18446744073709551615 - 2147483648)) % 2 ^ 31 = b % 2 ^ 31 := by
  rw [Nat.and_mod_two_pow, show (18446744073709551615 - 2147483648) % 2 ^ 31 = 2 ^ 31 - 1 by decide, Nat.and_two_pow_sub_one_eq_mod, Nat.mod_mod]
 have d : (b &&& (18446744073709551615 - 2147483648)) / 2 ^ 31 = 0 := by
  rw [Nat.and_div_two_pow, show (18446744073709551615 - 2147483648) / 2 ^ 31 = 8589934590 by decide]
  have c : b / 2 ^ 31 = 0 ∨ b / 2 ^ 31 = 1 := by omega
  rcases c with c | c <;> rw [c] <;> decide
 unfold mg
 generalize b &&& (18446744073709551615 - 2147483648) = q at a d
 omega
theorem andNot_64 (b : Nat) (h : b < 18446744073709551616) : bits BinOp.andNot IntKind.u64 (b : Int) 9223372036854775808 = ((mg 9223372036854775808 b : Nat) : Int) := by
 have e := u64_andNot_nat b 9223372036854775808 (by omega) (by omega)
 rw [show ((9223372036854775808 : Nat) : Int) = 9223372036854775808 from rfl] at e
 rw [e]
 congr 1
 exact Nat.and_two_pow_sub_one_eq_mod b 63
theorem and_sign_32 (b : Nat) (h : b < 4294967296) : bits BinOp.and IntKind.u64 (b : Int) 2147483648 = ((if ng 2147483648 b then 2147483648 else 0 : Nat) : Int) := by
 have e := u64_and_nat b 2147483648 (by omega) (by omega)
 rw [show ((2147483648 : Nat) : Int) = 2147483648 from rfl] at e
 rw [e]
 congr 1
 rw [show 2147483648 = 2 ^ 31 from rfl, nat_bit 31 b]
 unfold ng
 by_cases c : 2 ^ 31 ≤ b
 · rw [decide_eq_true c, if_pos rfl, show b / 2 ^ 31 = 1 by omega]
 · rw [decide_eq_false c, show b / 2 ^ 31 = 0 by omega]; rfl
theorem and_sign_64 (b : Nat) (h : b < 18446744073709551616) : bits BinOp.and IntKind.u64 (b : Int) 9223372036854775808 = ((if ng 9223372036854775808 b then 9223372036854775808 else 0 : Nat) : Int) := by
 have e := u64_and_nat b 9223372036854775808 (by omega) (by omega)
 rw [show ((9223372036854775808 : Nat) : Int) = 9223372036854775808 from rfl] at e
 rw [e]
 congr 1
 rw [show 9223372036854775808 = 2 ^ 63 from rfl, nat_bit 63 b]
 unfold ng
 by_cases c : 2 ^ 63 ≤ b
 · rw [decide_eq_true c, if_pos rfl, show b / 2 ^ 63 = 1 by omega]
 · rw [decide_eq_false c, show b / 2 ^ 63 = 0 by omega]; rfl
theorem or_pow (k x : Nat) (hk : 2 ^ k < 18446744073709551616) (h : x < 2 ^ k) : bits BinOp.or IntKind.u64 (x : Int) ((2 ^ k : Nat) : Int) = ((x + 2 ^ k : Nat) : Int) := by
 rw [u64_or_nat x (2 ^ k) (by omega) hk]
 congr 1
 rw [Nat.or_comm, nat_join k (2 ^ k) x (Nat.mod_self _) h, Nat.add_comm]
theorem or_hid_32 {m : Nat} (h : m < 8388608) : bits BinOp.or IntKind.u64 (m : Int) 8388608 = ((m + 8388608 : Nat) : Int) := or_pow 23 m (by decide) h
theorem or_hid_64 {m : Nat} (h : m < 4503599627370496) : bits BinOp.or IntKind.u64 (m : Int) 4503599627370496 = ((m + 4503599627370496 : Nat) : Int) := or_pow 52 m (by decide) h
theorem and_mask_32 {m : Nat} (h : m < 18446744073709551616) : bits BinOp.and IntKind.u64 (m : Int) 8388607 = ((m % 8388608 : Nat) : Int) := by
 have e := u64_and_nat m 8388607 h (by decide)
 rw [show ((8388607 : Nat) : Int) = 8388607 from rfl] at e
 rw [e]
 congr 1
 exact Nat.and_two_pow_sub_one_eq_mod m 23
theorem and_mask_64 {m : Nat} (h : m < 18446744073709551616) : bits BinOp.and IntKind.u64 (m : Int) 4503599627370495 = ((m % 4503599627370496 : Nat) : Int) := by
 have e := u64_and_nat m 4503599627370495 h (by decide)
 rw [show ((4503599627370495 : Nat) : Int) = 4503599627370495 from rfl] at e
 rw [e]
 congr 1
 exact Nat.and_two_pow_sub_one_eq_mod m 52
theorem mg_lt {g : Nat} (h : 0 < g) (b : Nat) : mg g b < g := Nat.mod_lt b h
end Go.Proofs.YtohhmobfmmeohaaGreatDoor
namespace Go.Proofs.YtohhmobfmmeohaaGreatDoor
def Frc (n d m : Nat) (e : Int) : Prop := vE n d 0 m e ∧ ∃ k, d = 2 ^ k ∧ (n % 2 = 1 ∨ k = 0)
theorem vE_of_eqv {n d m m' : Nat} {e x x' : Int} (h : vE n d e m x) (k : Eqv m x m' x') : vE n d e m' x' := by
 refine ⟨min e (min x x'), by omega, by omega, ?_⟩
 rw [h.at _ (by omega) (by omega), k.all _ (by omega) (by omega)]
end Go.Proofs.YtohhmobfmmeohaaGreatDoor
