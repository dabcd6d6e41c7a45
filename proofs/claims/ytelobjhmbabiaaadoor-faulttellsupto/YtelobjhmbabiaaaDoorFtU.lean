/-
  fault's told: the byte that is told first.
-/
import Derived.Test.YtelobjhmbabiaaaDoorFtQ
import Derived.BigQuiet
import Derived.Deep.QuietTactic
namespace Go.Proofs.YtelobjhmbabiaaaDoor
open Go.RowKit

def ixH (a : UInt8) : Int := Lib.indexByte (⟨#[48, 49, 50, 51, 52, 53, 54, 55, 56, 57, 97, 98, 99, 100, 101, 102]⟩ : ByteArray).data.toList a
theorem ixH_facts (a : UInt8) : ixH a = -1 ∨ (0 ≤ ixH a ∧ ixH a < 16 ∧ hx (UInt8.ofNat (ixH a).toNat) = a) := by
  revert a; refine all8 ?_; decide +kernel
theorem ixH_hx (d : UInt8) (h : d < 16) : ixH (hx d) = (d.toNat : Int) := by
  revert d; refine all8 ?_; decide +kernel
theorem index_hex (a : UInt8) (w : World) : Calls Tryd.prog 54 #[.string ⟨#[48, 49, 50, 51, 52, 53, 54, 55, 56, 57, 97, 98, 99, 100, 101, 102]⟩, .int .u8 (a.toNat : Int)] w fun e w' => e = .returned (.int .i64 (ixH a)) ∧ w' = w := by
  have h := indexByte_any ⟨#[48, 49, 50, 51, 52, 53, 54, 55, 56, 57, 97, 98, 99, 100, 101, 102]⟩ (a.toNat : Int) w
  have e : ((a.toNat : Int).toNat).toUInt8 = a := by simp
  rw [e] at h
  exact h

set_option maxRecDepth 100000 in
set_option maxHeartbeats 2000000 in
theorem told_plain {s : ByteArray} {c : UInt8} (h0 : 0 < s.size) (e0 : ((s[0]'h0).toNat : Int) = (c.toNat : Int)) (n : ((c.toNat : Int) != 92) = true) (p : plainB c = true) (q : specB c = false) (w : World) :
    Calls Tryd.prog 34 #[.string s] w fun e w' => e = .returned (.tuple #[.int .u8 (c.toNat : Int), .int .i64 1]) ∧ w' = w := by
  have P1 := fun W => plain_any c W
  have S1 := fun W => special_any c W
  rw [p] at P1
  rw [q] at S1
  clear p q
  go_enter Tryd.func34, Tryd.ntmps34
  go_wp2_with fail
  refine (P1 _).mono ?_
  rintro e w1 ⟨rfl, hw⟩
  subst hw
  go_wp2_with fail
  refine (S1 _).mono ?_
  rintro e w2 ⟨rfl, hw⟩
  subst hw
  go_wp2
  go_ret2
  exact ⟨rfl, rfl⟩

set_option maxRecDepth 100000 in
set_option maxHeartbeats 2000000 in
theorem told_bad {s : ByteArray} {c : UInt8} (h0 : 0 < s.size) (e0 : ((s[0]'h0).toNat : Int) = (c.toNat : Int)) (n : ((c.toNat : Int) != 92) = true) (p : plainB c = false ∨ specB c = true) (w : World) :
    Calls Tryd.prog 34 #[.string s] w fun e w' => e = .returned (.tuple #[.int .u8 0, .int .i64 0]) ∧ w' = w := by
  have P1 := fun W => plain_any c W
  have S1 := fun W => special_any c W
  cases r : plainB c with
  | false =>
    rw [r] at P1
    clear p r
    go_enter Tryd.func34, Tryd.ntmps34
    go_wp2_with fail
    refine (P1 _).mono ?_
    rintro e w1 ⟨rfl, hw⟩
    subst hw
    go_wp2
    go_ret2
    exact ⟨rfl, rfl⟩
  | true =>
    have q : specB c = true := by
      rcases p with a | a
      · rw [a] at r; cases r
      · exact a
    rw [r] at P1
    rw [q] at S1
    clear p r q
    go_enter Tryd.func34, Tryd.ntmps34
    go_wp2_with fail
    refine (P1 _).mono ?_
    rintro e w1 ⟨rfl, hw⟩
    subst hw
    go_wp2_with fail
    refine (S1 _).mono ?_
    rintro e w2 ⟨rfl, hw⟩
    subst hw
    go_wp2
    go_ret2
    exact ⟨rfl, rfl⟩

set_option maxRecDepth 100000 in
set_option maxHeartbeats 2000000 in
theorem told_spec {s : ByteArray} {c : UInt8} (h1 : 1 < s.size) (e0 : ((s[0]'(by omega)).toNat : Int) = 92) (e1 : ((s[1]'h1).toNat : Int) = (c.toNat : Int)) (q : specB c = true) (w : World) :
    Calls Tryd.prog 34 #[.string s] w fun e w' => e = .returned (.tuple #[.int .u8 (c.toNat : Int), .int .i64 2]) ∧ w' = w := by
  have S1 := fun W => special_any c W
  rw [q] at S1
  clear q
  have h0 : 0 < s.size := by omega
  have z : (2 : Int) ≤ (s.size : Int) := by omega
  go_enter Tryd.func34, Tryd.ntmps34
  go_wp2_with fail
  refine (S1 _).mono ?_
  rintro e w2 ⟨rfl, hw⟩
  subst hw
  go_wp2
  go_ret2
  exact ⟨rfl, rfl⟩

set_option maxRecDepth 100000 in
set_option maxHeartbeats 2000000 in
theorem told_one {s : ByteArray} (h1 : s.size = 1) (e0 : ((s[0]'(by omega)).toNat : Int) = 92) (w : World) :
    Calls Tryd.prog 34 #[.string s] w fun e w' => e = .returned (.tuple #[.int .u8 0, .int .i64 0]) ∧ w' = w := by
  have h0 : 0 < s.size := by omega
  go_enter Tryd.func34, Tryd.ntmps34
  go_wp2
  go_ret2
  exact ⟨rfl, rfl⟩

set_option maxRecDepth 100000 in
set_option maxHeartbeats 2000000 in
theorem told_few {s : ByteArray} {c : UInt8} (h1 : 1 < s.size) (e0 : ((s[0]'(by omega)).toNat : Int) = 92) (e1 : ((s[1]'h1).toNat : Int) = (c.toNat : Int)) (q : specB c = false) (h4 : s.size < 4 ∨ c ≠ 120) (w : World) :
    Calls Tryd.prog 34 #[.string s] w fun e w' => e = .returned (.tuple #[.int .u8 0, .int .i64 0]) ∧ w' = w := by
  have S1 := fun W => special_any c W
  rw [q] at S1
  clear q
  have h0 : 0 < s.size := by omega
  have z : (2 : Int) ≤ (s.size : Int) := by omega
  by_cases c4 : s.size < 4
  · have z4 : ¬ (4 : Int) ≤ (s.size : Int) := by omega
    clear h4
    go_enter Tryd.func34, Tryd.ntmps34
    go_wp2_with fail
    refine (S1 _).mono ?_
    rintro e w2 ⟨rfl, hw⟩
    subst hw
    go_wp2
    go_ret2
    exact ⟨rfl, rfl⟩
  · have z4 : (4 : Int) ≤ (s.size : Int) := by omega
    have n : ((c.toNat : Int) == 120) = false := by
      have a : c ≠ 120 := by rcases h4 with a | a; exact absurd a c4; exact a
      refine beq_eq_false_iff_ne.mpr fun q => a ?_
      exact UInt8.toNat_inj.mp (by have : c.toNat = 120 := by omega
                                   simpa using this)
    clear h4
    go_enter Tryd.func34, Tryd.ntmps34
    go_wp2_with fail
    refine (S1 _).mono ?_
    rintro e w2 ⟨rfl, hw⟩
    subst hw
    go_wp2
    go_ret2
    exact ⟨rfl, rfl⟩

theorem or_hex : ∀ x y : Fin 16, bits BinOp.or IntKind.i64 ((x.val : Int) * 16) (y.val : Int) = ((16 * x.val + y.val : Nat) : Int) := by decide +kernel

set_option maxRecDepth 100000 in
set_option maxHeartbeats 2000000 in
theorem told_hex {s : ByteArray} {a b : UInt8} (h3 : 3 < s.size) (e0 : ((s[0]'(by omega)).toNat : Int) = 92) (e1 : ((s[1]'(by omega)).toNat : Int) = 120) (e2 : ((s[2]'(by omega)).toNat : Int) = (a.toNat : Int)) (e3 : ((s[3]'h3).toNat : Int) = (b.toNat : Int))
    {c : UInt8} {x y : Nat} (gx : x < 16) (gy : y < 16) (ha : ixH a = (x : Int)) (hb : ixH b = (y : Int)) (hc : c.toNat = 16 * x + y) (p : plainB c = false) (w : World) :
    Calls Tryd.prog 34 #[.string s] w fun e w' => e = .returned (.tuple #[.int .u8 (c.toNat : Int), .int .i64 4]) ∧ ∃ n, w' = w.drewN n := by
  have S1 := fun W => special_any 120 W
  rw [show specB 120 = false by decide] at S1
  have i2 : (2 : Int) < (s.size : Int) := by omega
  have i3 : (3 : Int) < (s.size : Int) := by omega
  have IX := fun c W => index_hex c W
  have h0 : 0 < s.size := by omega
  have z : (2 : Int) ≤ (s.size : Int) := by omega
  have z4 : (4 : Int) ≤ (s.size : Int) := by omega
  have h1 : 1 < s.size := by omega
  have h2 : 2 < s.size := by omega
  have or1 : bits BinOp.or IntKind.i64 ((x : Int) * 16) (y : Int) = (c.toNat : Int) := by rw [hc]; exact or_hex ⟨x, gx⟩ ⟨y, gy⟩
  have md : (c.toNat : Int) % 256 = (c.toNat : Int) := by have := c.toNat_lt; omega
  have P1 := fun W => plain_any c W
  rw [p] at P1
  clear p hc
  go_enter Tryd.func34, Tryd.ntmps34
  go_wp2_with fail
  refine (S1 _).mono ?_
  rintro e w2 ⟨rfl, hw⟩
  subst hw
  go_wp2_with fail
  go_region_held3 (fun _ => True) (trivial) (first | (go_at_call 54; refine (IX _ _).mono ?_; rintro e w3 ⟨rfl, hw⟩; subst hw))
  all_goals
    go_wp2_with fail
    refine (P1 _).mono ?_
    rintro e w4 ⟨rfl, hw⟩
    subst hw
    go_wp2
    go_ret2
    exact ⟨rfl, 1, rfl⟩

set_option maxRecDepth 100000 in
set_option maxHeartbeats 2000000 in
theorem told_hexno {s : ByteArray} {a b : UInt8} (h3 : 3 < s.size) (e0 : ((s[0]'(by omega)).toNat : Int) = 92) (e1 : ((s[1]'(by omega)).toNat : Int) = 120) (e2 : ((s[2]'(by omega)).toNat : Int) = (a.toNat : Int)) (e3 : ((s[3]'h3).toNat : Int) = (b.toNat : Int))
    {c : UInt8} {x y : Nat} (gx : x < 16) (gy : y < 16) (ha : ixH a = (x : Int)) (hb : ixH b = (y : Int)) (hc : c.toNat = 16 * x + y) (p : plainB c = true) (w : World) :
    Calls Tryd.prog 34 #[.string s] w fun e w' => e = .returned (.tuple #[.int .u8 0, .int .i64 0]) ∧ ∃ n, w' = w.drewN n := by
  have S1 := fun W => special_any 120 W
  rw [show specB 120 = false by decide] at S1
  have i2 : (2 : Int) < (s.size : Int) := by omega
  have i3 : (3 : Int) < (s.size : Int) := by omega
  have IX := fun c W => index_hex c W
  have h0 : 0 < s.size := by omega
  have z : (2 : Int) ≤ (s.size : Int) := by omega
  have z4 : (4 : Int) ≤ (s.size : Int) := by omega
  have h1 : 1 < s.size := by omega
  have h2 : 2 < s.size := by omega
  have or1 : bits BinOp.or IntKind.i64 ((x : Int) * 16) (y : Int) = (c.toNat : Int) := by rw [hc]; exact or_hex ⟨x, gx⟩ ⟨y, gy⟩
  have md : (c.toNat : Int) % 256 = (c.toNat : Int) := by have := c.toNat_lt; omega
  have P1 := fun W => plain_any c W
  rw [p] at P1
  clear p hc
  go_enter Tryd.func34, Tryd.ntmps34
  go_wp2_with fail
  refine (S1 _).mono ?_
  rintro e w2 ⟨rfl, hw⟩
  subst hw
  go_wp2_with fail
  go_region_held3 (fun _ => True) (trivial) (first | (go_at_call 54; refine (IX _ _).mono ?_; rintro e w3 ⟨rfl, hw⟩; subst hw))
  all_goals
    go_wp2_with fail
    refine (P1 _).mono ?_
    rintro e w4 ⟨rfl, hw⟩
    subst hw
    go_wp2
    go_ret2
    exact ⟨rfl, 1, rfl⟩

set_option maxRecDepth 100000 in
set_option maxHeartbeats 2000000 in
theorem told_no1 {s : ByteArray} {a b : UInt8} (h3 : 3 < s.size) (e0 : ((s[0]'(by omega)).toNat : Int) = 92) (e1 : ((s[1]'(by omega)).toNat : Int) = 120) (e2 : ((s[2]'(by omega)).toNat : Int) = (a.toNat : Int)) (e3 : ((s[3]'h3).toNat : Int) = (b.toNat : Int))
    (ha : ixH a = -1) (w : World) :
    Calls Tryd.prog 34 #[.string s] w fun e w' => e = .returned (.tuple #[.int .u8 0, .int .i64 0]) ∧ ∃ n, w' = w.drewN n := by
  have S1 := fun W => special_any 120 W
  rw [show specB 120 = false by decide] at S1
  have i2 : (2 : Int) < (s.size : Int) := by omega
  have i3 : (3 : Int) < (s.size : Int) := by omega
  have IX := fun c W => index_hex c W
  have h0 : 0 < s.size := by omega
  have z : (2 : Int) ≤ (s.size : Int) := by omega
  have z4 : (4 : Int) ≤ (s.size : Int) := by omega
  have h1 : 1 < s.size := by omega
  have h2 : 2 < s.size := by omega
  go_enter Tryd.func34, Tryd.ntmps34
  go_wp2_with fail
  refine (S1 _).mono ?_
  rintro e w2 ⟨rfl, hw⟩
  subst hw
  go_wp2_with fail
  go_region_held3 (fun _ => True) (trivial) (first | (go_at_call 54; refine (IX _ _).mono ?_; rintro e w3 ⟨rfl, hw⟩; subst hw))
  all_goals
    go_wp2
    go_ret2
    exact ⟨rfl, 1, rfl⟩

set_option maxRecDepth 100000 in
set_option maxHeartbeats 2000000 in
theorem told_no2 {s : ByteArray} {a b : UInt8} (h3 : 3 < s.size) (e0 : ((s[0]'(by omega)).toNat : Int) = 92) (e1 : ((s[1]'(by omega)).toNat : Int) = 120) (e2 : ((s[2]'(by omega)).toNat : Int) = (a.toNat : Int)) (e3 : ((s[3]'h3).toNat : Int) = (b.toNat : Int))
    {x : Nat} (ha : ixH a = (x : Int)) (hb : ixH b = -1) (w : World) :
    Calls Tryd.prog 34 #[.string s] w fun e w' => e = .returned (.tuple #[.int .u8 0, .int .i64 0]) ∧ ∃ n, w' = w.drewN n := by
  have S1 := fun W => special_any 120 W
  rw [show specB 120 = false by decide] at S1
  have i2 : (2 : Int) < (s.size : Int) := by omega
  have i3 : (3 : Int) < (s.size : Int) := by omega
  have IX := fun c W => index_hex c W
  have h0 : 0 < s.size := by omega
  have z : (2 : Int) ≤ (s.size : Int) := by omega
  have z4 : (4 : Int) ≤ (s.size : Int) := by omega
  have h1 : 1 < s.size := by omega
  have h2 : 2 < s.size := by omega
  go_enter Tryd.func34, Tryd.ntmps34
  go_wp2_with fail
  refine (S1 _).mono ?_
  rintro e w2 ⟨rfl, hw⟩
  subst hw
  go_wp2_with fail
  go_region_held3 (fun _ => True) (trivial) (first | (go_at_call 54; refine (IX _ _).mono ?_; rintro e w3 ⟨rfl, hw⟩; subst hw))
  all_goals
    go_wp2
    go_ret2
    exact ⟨rfl, 1, rfl⟩

end Go.Proofs.YtelobjhmbabiaaaDoor
