/-
  Holds: VRdM VBtS VPwM VPwN VPgL QkN.
-/
import Derived.Laws.BitsAllLaws
import Derived.Test.YtjagnfddmlkalaaGreatDoorKj3
set_option maxRecDepth 100000
set_option maxHeartbeats 4000000
namespace Go.Proofs.YtjagnfddmlkalaaGreatDoor
def vL (n d : Nat) (e : Int) (m : Nat) (x : Int) : Prop := ∃ K, K ≤ e ∧ K ≤ x ∧ ev K n e < d * ev K m x
def vE (n d : Nat) (e : Int) (m : Nat) (x : Int) : Prop := ∃ K, K ≤ e ∧ K ≤ x ∧ ev K n e = d * ev K m x
theorem mul_swap (a b c : Nat) : a * (b * c) = a * b * c := (Nat.mul_assoc a b c).symm
theorem vL.at {n d m : Nat} {e x : Int} (h : vL n d e m x) (K : Int) (h1 : K ≤ e) (h2 : K ≤ x) : ev K n e < d * ev K m x := by
 obtain ⟨K0, a, b, q⟩ := h
 rcases Int.le_total K K0 with c | c
 · rw [ev_at n c a, ev_at m c b, mul_swap]
   exact Nat.mul_lt_mul_of_pos_right q (Nat.two_pow_pos _)
 · rw [ev_at n c h1, ev_at m c h2, mul_swap] at q
   exact Nat.lt_of_mul_lt_mul_right q
theorem vE.at {n d m : Nat} {e x : Int} (h : vE n d e m x) (K : Int) (h1 : K ≤ e) (h2 : K ≤ x) : ev K n e = d * ev K m x := by
 obtain ⟨K0, a, b, q⟩ := h
 rcases Int.le_total K K0 with c | c
 · rw [ev_at n c a, ev_at m c b, mul_swap, q]
 · rw [ev_at n c h1, ev_at m c h2, mul_swap] at q
   exact Nat.eq_of_mul_eq_mul_right (Nat.two_pow_pos _) q
def lE (m : Nat) (x : Int) (m' : Nat) (x' : Int) : Prop := ∃ K, K ≤ x ∧ K ≤ x' ∧ ev K m x ≤ ev K m' x'
theorem lE.at {m m' : Nat} {x x' : Int} (h : lE m x m' x') (K : Int) (h1 : K ≤ x) (h2 : K ≤ x') : ev K m x ≤ ev K m' x' := by
 obtain ⟨K0, a, b, q⟩ := h
 rcases Int.le_total K K0 with c | c
 · rw [ev_at m c a, ev_at m' c b]
   exact Nat.mul_le_mul_right _ q
 · rw [ev_at m c h1, ev_at m' c h2] at q
   exact Nat.le_of_mul_le_mul_right q (Nat.two_pow_pos _)
theorem vL.up {n d m m' : Nat} {e x x' : Int} (h : vL n d e m x) (k : lE m x m' x') : vL n d e m' x' := by
 refine ⟨min e (min x x'), by omega, by omega, ?_⟩
 exact Nat.lt_of_lt_of_le (h.at _ (by omega) (by omega)) (Nat.mul_le_mul_left d (k.at _ (by omega) (by omega)))
end Go.Proofs.YtjagnfddmlkalaaGreatDoor
namespace Go.Proofs.YtjagnfddmlkalaaGreatDoor
open Go
def Sn (s : Int) : Prop := s ≠ 32 ∧ s ≠ 64
def mg (g b : Nat) : Nat := b % g
def ng (g b : Nat) : Bool := decide (g ≤ b)
def cl (n m : Nat) : Int := if m = 0 then 1 else if m < n then 2 else if m = n then 3 else 4
def uN (g n b : Nat) : Bool := if cl n (mg g b) = 4 then false else ng g b
def uM (n f m : Nat) : Nat := if cl n m = 2 then mt f m else 0
def uE (n f : Nat) (L : Int) (m : Nat) : Int := if cl n m = 2 then xp f L m else 0
theorem cl_zero (n : Nat) : cl n 0 = 1 := if_pos rfl
theorem cl_fine {n m : Nat} (h0 : m ≠ 0) (h : m < n) : cl n m = 2 := by unfold cl; rw [if_neg h0, if_pos h]
theorem cl_inf {n : Nat} (h0 : n ≠ 0) : cl n n = 3 := by unfold cl; rw [if_neg h0, if_neg (Nat.lt_irrefl n), if_pos rfl]
theorem cl_nan {n m : Nat} (h : n < m) : cl n m = 4 := by unfold cl; rw [if_neg (by omega), if_neg (by omega), if_neg (by omega)]
theorem cl_cases (n m : Nat) : (m = 0 ∧ cl n m = 1) ∨ (m ≠ 0 ∧ m < n ∧ cl n m = 2) ∨ (m ≠ 0 ∧ m = n ∧ cl n m = 3) ∨ (n < m ∧ cl n m = 4) := by
 by_cases h0 : m = 0
 · left; exact ⟨h0, by rw [h0, cl_zero]⟩
 · by_cases h1 : m < n
   · right; left; exact ⟨h0, h1, cl_fine h0 h1⟩
   · by_cases h2 : m = n
     · right; right; left; exact ⟨h0, h2, by rw [h2]; exact cl_inf (by omega)⟩
     · right; right; right; exact ⟨by omega, cl_nan (by omega)⟩
theorem andNot_32 (b : Nat) (h : b < 4294967296) : bits BinOp.andNot IntKind.u64 (b : Int) 2147483648 = ((mg 2147483648 b : Nat) : Int) := by
 have e := u64_andNot_nat b 2147483648 (by omega) (by omega)
 rw [show ((2147483648 : Nat) : Int) = 2147483648 from rfl] at e
 rw [e]
 congr 1
 have a : (b &&& (18446744073709551615 - 2147483648)) % 2 ^ 31 = b % 2 ^ 31 := by
  rw [Nat.and_mod_two_pow, show (18446744073709551615 - 2147483648) % 2 ^ 31 = 2 ^ 31 - 1 by decide, Nat.and_two_pow_sub_one_eq_mod, Nat.mod_mod]
 have d : (b &&& (18446744073709551615 - 2147483648)) / 2 ^ 31 = 0 := by
  rw [Nat.and_div_two_pow, show (18446744073709551615 - 2147483648) / 2 ^ 31 = 8589934590 by decide]
  have c : b / 2 ^ 31 = 0 ∨ b / 2 ^ 31 = 1 := by omega
  rcases c with c | c <;> rw [c] <;> decide
 unfold mg
 generalize b &&& (18446744073709551615 - 2147483648) = q at a d
 omega
theorem andNot_64 (b : Nat) (h : b < 18446744073709551616) : bits BinOp.andNot IntKind.u64 (b : Int) 9223372036854775808 = ((mg 9223372036854775808 b : Nat) : Int) := by
 have e := u64_andNot_nat b 9223372036854775808 (by omega) (by omega)
 rw [show ((9223372036854775808 : Nat) : Int) = 9223372036854775808 from rfl] at e
 rw [e]
 congr 1
 exact Nat.and_two_pow_sub_one_eq_mod b 63
theorem and_sign_32 (b : Nat) (h : b < 4294967296) : bits BinOp.and IntKind.u64 (b : Int) 2147483648 = ((if ng 2147483648 b then 2147483648 else 0 : Nat) : Int) := by
 have e := u64_and_nat b 2147483648 (by omega) (by omega)
 rw [show ((2147483648 : Nat) : Int) = 2147483648 from rfl] at e
 rw [e]
 congr 1
 rw [show 2147483648 = 2 ^ 31 from rfl, nat_bit 31 b]
 unfold ng
 by_cases c : 2 ^ 31 ≤ b
 · rw [decide_eq_true c, if_pos rfl, show b / 2 ^ 31 = 1 by omega]
 · rw [decide_eq_false c, show b / 2 ^ 31 = 0 by omega]; rfl
theorem and_sign_64 (b : Nat) (h : b < 18446744073709551616) : bits BinOp.and IntKind.u64 (b : Int) 9223372036854775808 = ((if ng 9223372036854775808 b then 9223372036854775808 else 0 : Nat) : Int) := by
 have e := u64_and_nat b 9223372036854775808 (by omega) (by omega)
 rw [show ((9223372036854775808 : Nat) : Int) = 9223372036854775808 from rfl] at e
 rw [e]
 congr 1
 rw [show 9223372036854775808 = 2 ^ 63 from rfl, nat_bit 63 b]
 unfold ng
 by_cases c : 2 ^ 63 ≤ b
 · rw [decide_eq_true c, if_pos rfl, show b / 2 ^ 63 = 1 by omega]
 · rw [decide_eq_false c, show b / 2 ^ 63 = 0 by omega]; rfl
theorem or_pow (k x : Nat) (hk : 2 ^ k < 18446744073709551616) (h : x < 2 ^ k) : bits BinOp.or IntKind.u64 (x : Int) ((2 ^ k : Nat) : Int) = ((x + 2 ^ k : Nat) : Int) := by
 rw [u64_or_nat x (2 ^ k) (by omega) hk]
 congr 1
 rw [Nat.or_comm, nat_join k (2 ^ k) x (Nat.mod_self _) h, Nat.add_comm]
theorem or_hid_32 {m : Nat} (h : m < 8388608) : bits BinOp.or IntKind.u64 (m : Int) 8388608 = ((m + 8388608 : Nat) : Int) := or_pow 23 m (by decide) h
theorem or_hid_64 {m : Nat} (h : m < 4503599627370496) : bits BinOp.or IntKind.u64 (m : Int) 4503599627370496 = ((m + 4503599627370496 : Nat) : Int) := or_pow 52 m (by decide) h
theorem and_mask_32 {m : Nat} (h : m < 18446744073709551616) : bits BinOp.and IntKind.u64 (m : Int) 8388607 = ((m % 8388608 : Nat) : Int) := by
 have e := u64_and_nat m 8388607 h (by decide)
 rw [show ((8388607 : Nat) : Int) = 8388607 from rfl] at e
 rw [e]
 congr 1
 exact Nat.and_two_pow_sub_one_eq_mod m 23
theorem and_mask_64 {m : Nat} (h : m < 18446744073709551616) : bits BinOp.and IntKind.u64 (m : Int) 4503599627370495 = ((m % 4503599627370496 : Nat) : Int) := by
 have e := u64_and_nat m 4503599627370495 h (by decide)
 rw [show ((4503599627370495 : Nat) : Int) = 4503599627370495 from rfl] at e
 rw [e]
 congr 1
 exact Nat.and_two_pow_sub_one_eq_mod m 52
theorem mg_lt {g : Nat} (h : 0 < g) (b : Nat) : mg g b < g := Nat.mod_lt b h
end Go.Proofs.YtjagnfddmlkalaaGreatDoor
namespace Go.Proofs.YtjagnfddmlkalaaGreatDoor
def pN (e : Int) : Nat := 10 ^ e.toNat
def pD (e : Int) : Nat := 10 ^ (-e).toNat
def Pw (e : Int) (M : Nat) (E : Int) : Prop := 2 ^ 127 ≤ M ∧ M < 2 ^ 128 ∧ ¬ vL (pN e) (pD e) 0 M E ∧ vL (pN e) (pD e) 0 (M + 1) E
theorem lE_of {m m' : Nat} {x x' : Int} (c : x ≤ x') (h : m ≤ m' * 2 ^ (x' - x).toNat) : lE m x m' x' := by
 refine ⟨x, Int.le_refl _, c, ?_⟩
 unfold ev
 rw [Int.sub_self, show (0 : Int).toNat = 0 from rfl, Nat.pow_zero, Nat.mul_one]
 exact h
theorem ten_five (k : Nat) : 10 ^ k = 2 ^ k * 5 ^ k := by rw [← Nat.mul_pow]
theorem pw_scale {a b c d M X Y : Nat} {e s : Int} (he : e = (a : Int) - (b : Int)) (hs : s = (c : Int) - (d : Int)) (ha : pN e = 2 ^ a * X) (hb : pD e = 2 ^ b * Y) :
 (vL (pN e) (pD e) 0 M (e - s) ↔ X * 2 ^ c < M * (Y * 2 ^ d)) ∧ (vE (pN e) (pD e) 0 M (e - s) ↔ X * 2 ^ c = M * (Y * 2 ^ d)) := by
 have l : ev (-((b : Int) + c)) (pN e) 0 = 2 ^ (a + b) * (X * 2 ^ c) := by
  unfold ev
  rw [ha, show (0 - -((b : Int) + (c : Int))).toNat = b + c from by omega, Nat.pow_add, Nat.pow_add]
  generalize 2 ^ a = A
  generalize 2 ^ b = D
  generalize 2 ^ c = G
  rw [Nat.mul_assoc, Nat.mul_assoc A D, Nat.mul_left_comm X D G]
 have r : pD e * ev (-((b : Int) + c)) M (e - s) = 2 ^ (a + b) * (M * (Y * 2 ^ d)) := by
  unfold ev
  rw [hb, show (e - s - -((b : Int) + (c : Int))).toNat = a + d from by omega, Nat.pow_add, Nat.pow_add]
  generalize 2 ^ a = A
  generalize 2 ^ b = D
  generalize 2 ^ d = G
  rw [Nat.mul_comm A D, Nat.mul_assoc D Y, Nat.mul_assoc D A]
  congr 1
  rw [Nat.mul_left_comm Y M, Nat.mul_left_comm Y A, Nat.mul_left_comm M A]
 have p := Nat.two_pow_pos (a + b)
 have k1 : -((b : Int) + c) ≤ 0 := by omega
 have k2 : -((b : Int) + c) ≤ e - s := by omega
 refine ⟨⟨fun h => ?_, fun h => ⟨_, k1, k2, ?_⟩⟩, ⟨fun h => ?_, fun h => ⟨_, k1, k2, ?_⟩⟩⟩
 · have q := h.at _ k1 k2
   rw [l, r] at q
   exact Nat.lt_of_mul_lt_mul_left q
 · rw [l, r]
   exact Nat.mul_lt_mul_of_pos_left h p
 · have q := h.at _ k1 k2
   rw [l, r] at q
   exact Nat.eq_of_mul_eq_mul_left p q
 · rw [l, r, h]
theorem pN_five (e : Int) : pN e = 2 ^ e.toNat * 5 ^ e.toNat := ten_five _
theorem pD_five (e : Int) : pD e = 2 ^ (-e).toNat * 5 ^ (-e).toNat := ten_five _
theorem pw_quo {e s : Int} {M r : Nat} (h1 : 2 ^ 127 ≤ M) (h2 : M < 2 ^ 128) (hr : r < 5 ^ (-e).toNat * 2 ^ (-s).toNat) (h : 5 ^ e.toNat * 2 ^ s.toNat = M * (5 ^ (-e).toNat * 2 ^ (-s).toNat) + r) :
 Pw e M (e - s) ∧ (vE (pN e) (pD e) 0 M (e - s) ↔ r = 0) := by
 have k := fun A => pw_scale (a := e.toNat) (b := (-e).toNat) (c := s.toNat) (d := (-s).toNat) (M := A) (e := e) (s := s) (by omega) (by omega) (pN_five e) (pD_five e)
 refine ⟨⟨h1, h2, ?_, ?_⟩, ?_⟩
 · rw [(k M).1, h]; omega
 · rw [(k (M + 1)).1, h, Nat.add_mul, Nat.one_mul]; omega
 · rw [(k M).2, h]; omega
theorem two_five : ∀ c : Nat, 2 ^ c % 5 ≠ 0
  | 0 => by decide
  | c + 1 => by
    have i := two_five c
    rw [Nat.pow_succ]
    omega
theorem five_odd : ∀ a : Nat, 5 ^ a % 2 = 1
  | 0 => by decide
  | a + 1 => by
    have i := five_odd a
    rw [Nat.pow_succ]
    omega
theorem pw_exact {e : Int} {M : Nat} {E : Int} (h : Pw e M E) : vE (pN e) (pD e) 0 M E ↔ (0 ≤ e ∧ e ≤ 55) := by
 obtain ⟨s, hs⟩ : ∃ s, s = e - E := ⟨_, rfl⟩
 have eE : E = e - s := by omega
 have k := fun A => pw_scale (a := e.toNat) (b := (-e).toNat) (c := s.toNat) (d := (-s).toNat) (M := A) (e := e) (s := s) (by omega) (by omega) (pN_five e) (pD_five e)
 obtain ⟨h1, h2, h3, h4⟩ := h
 rw [eE] at h3 h4 ⊢
 rw [(k M).1] at h3
 rw [(k (M + 1)).1] at h4
 rw [(k M).2]
 by_cases c : 0 ≤ e
 · rw [show (-e).toNat = 0 from by omega, Nat.pow_zero, Nat.one_mul] at h3 h4 ⊢
   by_cases c2 : 0 ≤ s
   · rw [show (-s).toNat = 0 from by omega, Nat.pow_zero, Nat.mul_one] at h3 h4 ⊢
     refine ⟨fun _ => ⟨c, ?_⟩, fun _ => by omega⟩
     apply Int.not_lt.1
     intro c3
     have a : 5 ^ 56 ≤ 5 ^ e.toNat := Nat.pow_le_pow_right (by omega) (by omega)
     have b := Nat.le_mul_of_pos_right (5 ^ e.toNat) (Nat.two_pow_pos s.toNat)
     have d : 2 ^ 128 ≤ 5 ^ 56 := by decide
     omega
   · rw [show s.toNat = 0 from by omega, Nat.pow_zero, Nat.mul_one] at h3 h4 ⊢
     have o := five_odd e.toNat
     have t : 2 ^ (-s).toNat = 2 * 2 ^ ((-s).toNat - 1) := by
      rw [show (-s).toNat = (-s).toNat - 1 + 1 from by omega, Nat.pow_succ, Nat.add_sub_cancel]; omega
     have tp := Nat.two_pow_pos ((-s).toNat - 1)
     rw [t] at h3 h4 ⊢
     generalize 2 ^ ((-s).toNat - 1) = z at *
     refine ⟨fun q => ?_, fun q => ?_⟩
     · exfalso
       rw [q, show M * (2 * z) = 2 * (M * z) from Nat.mul_left_comm _ _ _] at o
       omega
     · exfalso
       have a : 5 ^ e.toNat ≤ 5 ^ 55 := Nat.pow_le_pow_right (by omega) (by omega)
       have d : 5 ^ 55 < 2 ^ 128 := by decide
       have m := Nat.mul_le_mul h1 (show 2 * 1 ≤ 2 * z from by omega)
       omega
 · rw [show e.toNat = 0 from by omega, Nat.pow_zero, Nat.one_mul]
   refine ⟨fun q => ?_, fun q => absurd q.1 c⟩
   exfalso
   have o := two_five s.toNat
   rw [q, show (-e).toNat = (-e).toNat - 1 + 1 from by omega, Nat.pow_succ] at o
   refine o ?_
   rw [show M * (5 ^ ((-e).toNat - 1) * 5 * 2 ^ (-s).toNat) = 5 * (M * (5 ^ ((-e).toNat - 1) * 2 ^ (-s).toNat)) from by
    generalize 5 ^ ((-e).toNat - 1) = y
    generalize 2 ^ (-s).toNat = z
    rw [Nat.mul_comm y 5, Nat.mul_assoc 5 y, Nat.mul_left_comm]]
   exact Nat.mul_mod_right _ _
def tlt (n d : Int) : Prop := 2 ^ n.toNat * 10 ^ (-d).toNat < 10 ^ d.toNat * 2 ^ (-n).toNat
def Td (n d : Int) : Prop := ¬ tlt n (d - 1) ∧ tlt n d
theorem td_pos {n : Nat} {l : Nat} (l0 : 0 < l) (h1 : 10 ^ (l - 1) ≤ 2 ^ n) (h2 : 2 ^ n < 10 ^ l) : Td (n : Int) (l : Int) := by
 unfold Td tlt
 rw [Int.toNat_natCast, Int.toNat_natCast, show (-(n : Int)).toNat = 0 from by omega, show (-(l : Int)).toNat = 0 from by omega, show ((l : Int) - 1).toNat = l - 1 from by omega, show (-((l : Int) - 1)).toNat = 0 from by omega, Nat.pow_zero]
 simp only [Nat.mul_one]
 omega
theorem tlt_neg {k : Nat} {l : Nat} : tlt (-(k : Int)) ((l : Int) - (k : Int)) ↔ 5 ^ k < 10 ^ l := by
 unfold tlt
 rw [show (-(k : Int)).toNat = 0 from by omega, show (- -(k : Int)).toNat = k from by omega, Nat.pow_zero, Nat.one_mul]
 have p2 := Nat.two_pow_pos k
 have e10 := ten_five k
 rcases Nat.le_total k l with c | c
 · rw [show (-((l : Int) - (k : Int))).toNat = 0 from by omega, show ((l : Int) - (k : Int)).toNat = l - k from by omega, Nat.pow_zero]
   have el : 10 ^ l = 10 ^ (l - k) * 10 ^ k := by rw [← Nat.pow_add]; congr 1; omega
   have p5 : 0 < 5 ^ k := Nat.pow_pos (by omega)
   have pl : 0 < 10 ^ (l - k) := Nat.pow_pos (by omega)
   rw [el, e10, ← Nat.mul_assoc]
   constructor
   · intro h
     have q := Nat.mul_lt_mul_of_pos_right h p5
     omega
   · intro h
     apply Nat.lt_of_not_le
     intro z
     have q := Nat.mul_le_mul_right (5 ^ k) z
     omega
 · rw [show (-((l : Int) - (k : Int))).toNat = k - l from by omega, show ((l : Int) - (k : Int)).toNat = 0 from by omega, Nat.pow_zero, Nat.one_mul]
   have ek : 10 ^ k = 10 ^ (k - l) * 10 ^ l := by rw [← Nat.pow_add]; congr 1; omega
   have pl : 0 < 10 ^ l := Nat.pow_pos (by omega)
   rw [ek] at e10
   constructor
   · intro h
     have q := Nat.mul_lt_mul_of_pos_right h pl
     rw [e10] at q
     exact Nat.lt_of_mul_lt_mul_left q
   · intro h
     have q := Nat.mul_lt_mul_of_pos_left h p2
     rw [← e10] at q
     exact Nat.lt_of_mul_lt_mul_right q
theorem td_neg {k l : Nat} (l0 : 0 < l) (h1 : 10 ^ (l - 1) ≤ 5 ^ k) (h2 : 5 ^ k < 10 ^ l) : Td (-(k : Int)) ((l : Int) - (k : Int)) := by
 refine ⟨fun c => ?_, tlt_neg.2 h2⟩
 rw [show (l : Int) - (k : Int) - 1 = ((l - 1 : Nat) : Int) - (k : Int) from by omega] at c
 have := tlt_neg.1 c
 omega
def okD (k : Nat) : Bool := decide (10 ^ (k * 1292913986 / 4294967296) ≤ 2 ^ k) && decide (2 ^ k < 10 ^ (k * 1292913986 / 4294967296 + 1))
def okN (k : Nat) : Bool := decide ((k * 1292913986 + 4294967295) / 4294967296 ≤ k) && decide (10 ^ (k - (k * 1292913986 + 4294967295) / 4294967296) ≤ 5 ^ k) && decide (5 ^ k < 10 ^ (k - (k * 1292913986 + 4294967295) / 4294967296 + 1))
theorem okD_all : (List.range 1101).all okD = true := by decide +kernel
theorem okN_all : (List.range 1101).all okN = true := by decide +kernel
theorem ok_at {p : Nat → Bool} {n k : Nat} (h : (List.range n).all p = true) (hk : k < n) : p k = true := List.all_eq_true.1 h k (List.mem_range.2 hk)
theorem td_log (n : Int) (h1 : -1100 ≤ n) (h2 : n ≤ 1100) : Td n (n * 1292913986 / 4294967296 + 1) := by
 rcases Int.lt_or_le n 0 with c | c
 · obtain ⟨k, hk⟩ : ∃ k : Nat, n = -(k : Int) := ⟨(-n).toNat, by omega⟩
   subst hk
   have q := ok_at okN_all (show k < 1101 by omega)
   unfold okN at q
   simp only [Bool.and_eq_true, decide_eq_true_eq] at q
   obtain ⟨⟨q0, q1⟩, q2⟩ := q
   have t := td_neg (k := k) (l := k - (k * 1292913986 + 4294967295) / 4294967296 + 1) (by omega) (by rw [Nat.add_sub_cancel]; exact q1) q2
   have e : -(k : Int) * 1292913986 / 4294967296 + 1 = ((k - (k * 1292913986 + 4294967295) / 4294967296 + 1 : Nat) : Int) - (k : Int) := by omega
   rw [e]
   exact t
 · obtain ⟨k, hk⟩ : ∃ k : Nat, n = (k : Int) := ⟨n.toNat, by omega⟩
   subst hk
   have q := ok_at okD_all (show k < 1101 by omega)
   unfold okD at q
   simp only [Bool.and_eq_true, decide_eq_true_eq] at q
   have t := td_pos (n := k) (l := k * 1292913986 / 4294967296 + 1) (by omega) (by rw [Nat.add_sub_cancel]; exact q.1) q.2
   have e : (k : Int) * 1292913986 / 4294967296 + 1 = ((k * 1292913986 / 4294967296 + 1 : Nat) : Int) := by omega
   rw [e]
   exact t
theorem td_scale {r : Nat} {e l : Int} (h1 : -(r : Int) ≤ e) (h2 : -(r : Int) ≤ l) : tlt e l ↔ 2 ^ (e + (r : Int)).toNat * 5 ^ r < 10 ^ (l + (r : Int)).toNat := by
 unfold tlt
 have e1 : 2 ^ (e + (r : Int)).toNat * 2 ^ (-e).toNat = 2 ^ e.toNat * 2 ^ r := by rw [← Nat.pow_add, ← Nat.pow_add]; congr 1; omega
 have e2 : 10 ^ (l + (r : Int)).toNat * 10 ^ (-l).toNat = 10 ^ l.toNat * 10 ^ r := by rw [← Nat.pow_add, ← Nat.pow_add]; congr 1; omega
 have e3 := ten_five r
 have p1 := Nat.two_pow_pos (-e).toNat
 have p2 : 0 < 10 ^ (-l).toNat := Nat.pow_pos (by decide)
 have p3 : 0 < 10 ^ r := Nat.pow_pos (by decide)
 generalize 2 ^ (e + (r : Int)).toNat = x at *
 generalize 10 ^ (l + (r : Int)).toNat = y at *
 generalize 2 ^ (-e).toNat = b at *
 generalize 10 ^ (-l).toNat = d at *
 generalize 2 ^ e.toNat = a at *
 generalize 10 ^ l.toNat = c at *
 generalize 10 ^ r = R at *
 generalize 2 ^ r = u at *
 generalize 5 ^ r = v at *
 have k1 : x * v * (b * d) = R * (a * d) := by
  rw [e3, show x * v * (b * d) = x * b * (v * d) by ac_rfl, e1]; ac_rfl
 have k2 : y * (b * d) = R * (c * b) := by
  rw [show y * (b * d) = y * d * b by ac_rfl, e2]; ac_rfl
 rw [← Nat.mul_lt_mul_left p3 (b := a * d) (c := c * b), ← k1, ← k2, Nat.mul_lt_mul_right (Nat.mul_pos p1 p2)]
theorem vl_scale {r k b : Nat} {p X : Int} {A : Nat} (hp : -(r : Int) ≤ p) (hk : (b : Int) = X + (k : Int)) :
 (vL (pN (-p)) (pD (-p)) 0 A X ↔ 10 ^ r * 2 ^ k < 10 ^ (p + (r : Int)).toNat * (A * 2 ^ b)) ∧ (vE (pN (-p)) (pD (-p)) 0 A X ↔ 10 ^ r * 2 ^ k = 10 ^ (p + (r : Int)).toNat * (A * 2 ^ b)) := by
 have e0 : 10 ^ (p + (r : Int)).toNat * pN (-p) = 10 ^ r * pD (-p) := by
  unfold pN pD
  rw [← Nat.pow_add, ← Nat.pow_add]; congr 1; omega
 have n0 : 0 < pN (-p) := Nat.pow_pos (by decide)
 have p3 : 0 < 10 ^ r := Nat.pow_pos (by decide)
 have l1 : ev (-(k : Int)) (pN (-p)) 0 = pN (-p) * 2 ^ k := by
  unfold ev; rw [show ((0 : Int) - -(k : Int)).toNat = k by omega]
 have l2 : ev (-(k : Int)) A X = A * 2 ^ b := by
  unfold ev; rw [show (X - -(k : Int)).toNat = b by omega]
 have c1 : -(k : Int) ≤ 0 := by omega
 have c2 : -(k : Int) ≤ X := by omega
 generalize pN (-p) = n at *
 generalize pD (-p) = q at *
 generalize 10 ^ (p + (r : Int)).toNat = D at *
 generalize 10 ^ r = R at *
 generalize 2 ^ k = s at *
 generalize A * 2 ^ b = Y at *
 have m1 : R * (q * Y) = n * (D * Y) := by rw [← Nat.mul_assoc, ← e0]; ac_rfl
 have m2 : R * (n * s) = n * (R * s) := by ac_rfl
 have g1 : n * s < q * Y ↔ R * s < D * Y := by rw [← Nat.mul_lt_mul_left p3, m1, m2, Nat.mul_lt_mul_left n0]
 have g2 : n * s = q * Y ↔ R * s = D * Y := by
  constructor
  · intro h
    refine Nat.eq_of_mul_eq_mul_left n0 ?_
    rw [← m1, ← m2, h]
  · intro h
    refine Nat.eq_of_mul_eq_mul_left p3 ?_
    rw [m1, m2, h]
 refine ⟨⟨fun h => ?_, fun h => ⟨_, c1, c2, ?_⟩⟩, ⟨fun h => ?_, fun h => ⟨_, c1, c2, ?_⟩⟩⟩
 · have y := h.at _ c1 c2
   rw [l1, l2] at y
   exact g1.1 y
 · rw [l1, l2]; exact g1.2 h
 · have y := h.at _ c1 c2
   rw [l1, l2] at y
   exact g2.1 y
 · rw [l1, l2]; exact g2.2 h
theorem pw_le21 {e : Int} {M M' : Nat} {E E' : Int} (h : Pw e M E) (h' : Pw e M' E') : E' ≤ E := by
 refine Int.not_lt.1 (fun c => ?_)
 refine h'.2.2.1 (h.2.2.2.up (lE_of (by omega) ?_))
 have a := h.2.1
 have b := h'.1
 have t : 2 ≤ 2 ^ (E' - E).toNat := by
  have := Nat.pow_le_pow_right (n := 2) (by omega) (show 1 ≤ (E' - E).toNat by omega)
  omega
 have q := Nat.mul_le_mul b t
 omega
theorem pw_uniq21 {e : Int} {M M' : Nat} {E E' : Int} (h : Pw e M E) (h' : Pw e M' E') : M = M' ∧ E = E' := by
 have eE : E = E' := by have := pw_le21 h h'; have := pw_le21 h' h; omega
 subst eE
 have key : ∀ {A B : Nat}, Pw e A E → Pw e B E → A ≤ B := by
  intro A B ha hb
  apply Nat.le_of_not_lt
  intro c
  refine ha.2.2.1 (hb.2.2.2.up (lE_of (Int.le_refl _) ?_))
  rw [Int.sub_self, show (0 : Int).toNat = 0 from rfl, Nat.pow_zero, Nat.mul_one]
  omega
 exact ⟨Nat.le_antisymm (key h h') (key h' h), rfl⟩
end Go.Proofs.YtjagnfddmlkalaaGreatDoor
