/-
  Comparing decimal numbers: the calls of dec's Compare, for each way in which two numbers may lie.
-/
import Derived.Test.YtladeppjccfbhaaDoorDecU
import Derived.BigQuiet
namespace Go.Proofs.YtladeppjccfbhaaDoor
open Go.RowKit

/-- -1, 0, 1. -/
def cmpI (x y : Int) : Int := if x < y then -1 else if y < x then 1 else 0

theorem nan_int (x : Int) (w : World) :
    Calls Tryd.prog 73 #[.int .i64 x] w fun e w' => e = .returned (.bool false) ∧ w' = w := by
  go_enter Tryd.func73, Tryd.ntmps73
  go_wp2
  go_ret
  simp

theorem nan_byte (x : Int) (w : World) :
    Calls Tryd.prog 74 #[.int .u8 x] w fun e w' => e = .returned (.bool false) ∧ w' = w := by
  go_enter Tryd.func74, Tryd.ntmps74
  go_wp2
  go_ret
  simp

theorem cmp_int (x y : Int) (w : World) :
    Calls Tryd.prog 39 #[.int .i64 x, .int .i64 y] w fun e w' => e = .returned (.int .i64 (cmpI x y)) ∧ w' = w := by
  have H := nan_int
  unfold cmpI
  by_cases h1 : x < y
  · rw [if_pos h1]
    go_enter Tryd.func39, Tryd.ntmps39
    go_wp2_with fail
    refine (H _ _).mono ?_
    rintro e w0 ⟨rfl, rfl⟩
    go_wp2_with fail
    refine (H _ _).mono ?_
    rintro e w0 ⟨rfl, rfl⟩
    go_wp2
    go_ret
    exact ⟨rfl, rfl⟩
  · rw [if_neg h1]
    by_cases h2 : y < x
    · rw [if_pos h2]
      go_enter Tryd.func39, Tryd.ntmps39
      go_wp2_with fail
      refine (H _ _).mono ?_
      rintro e w0 ⟨rfl, rfl⟩
      go_wp2_with fail
      refine (H _ _).mono ?_
      rintro e w0 ⟨rfl, rfl⟩
      go_wp2
      go_ret
      exact ⟨rfl, rfl⟩
    · rw [if_neg h2]
      go_enter Tryd.func39, Tryd.ntmps39
      go_wp2_with fail
      refine (H _ _).mono ?_
      rintro e w0 ⟨rfl, rfl⟩
      go_wp2_with fail
      refine (H _ _).mono ?_
      rintro e w0 ⟨rfl, rfl⟩
      go_wp2
      go_ret
      exact ⟨rfl, rfl⟩

theorem cmp_byte (x y : Int) (w : World) :
    Calls Tryd.prog 40 #[.int .u8 x, .int .u8 y] w fun e w' => e = .returned (.int .i64 (cmpI x y)) ∧ w' = w := by
  have H := nan_byte
  unfold cmpI
  by_cases h1 : x < y
  · rw [if_pos h1]
    go_enter Tryd.func40, Tryd.ntmps40
    go_wp2_with fail
    refine (H _ _).mono ?_
    rintro e w0 ⟨rfl, rfl⟩
    go_wp2_with fail
    refine (H _ _).mono ?_
    rintro e w0 ⟨rfl, rfl⟩
    go_wp2
    go_ret
    exact ⟨rfl, rfl⟩
  · rw [if_neg h1]
    by_cases h2 : y < x
    · rw [if_pos h2]
      go_enter Tryd.func40, Tryd.ntmps40
      go_wp2_with fail
      refine (H _ _).mono ?_
      rintro e w0 ⟨rfl, rfl⟩
      go_wp2_with fail
      refine (H _ _).mono ?_
      rintro e w0 ⟨rfl, rfl⟩
      go_wp2
      go_ret
      exact ⟨rfl, rfl⟩
    · rw [if_neg h2]
      go_enter Tryd.func40, Tryd.ntmps40
      go_wp2_with fail
      refine (H _ _).mono ?_
      rintro e w0 ⟨rfl, rfl⟩
      go_wp2_with fail
      refine (H _ _).mono ?_
      rintro e w0 ⟨rfl, rfl⟩
      go_wp2
      go_ret
      exact ⟨rfl, rfl⟩

/-- Two numbers with the same first digits, by whether they go on. -/
def bhd : Bool → Bool → Int | true, true => 2 | true, false => 1 | false, true => -1 | false, false => 0
theorem behind_any (a b : Bool) (w : World) :
    Calls Tryd.prog 41 #[.bool a, .bool b] w fun e w' => e = .returned (.int .i64 (bhd a b)) ∧ w' = w := by
  cases a <;> cases b <;>
  · go_enter Tryd.func41, Tryd.ntmps41
    go_wp2
    go_ret
    exact ⟨rfl, rfl⟩

/-- A digit; 0 behind the last one. -/
def dgt (s : ByteArray) (i : Nat) : Nat := if h : i < s.size then (s[i]'h).toNat else 48
theorem dgt_lt {s : ByteArray} {i : Nat} (h : i < s.size) : dgt s i = (s[i]'h).toNat := by unfold dgt; rw [dif_pos h]
theorem dgt_ge {s : ByteArray} {i : Nat} (h : s.size ≤ i) : dgt s i = 48 := by unfold dgt; rw [dif_neg (by omega)]

theorem at_any (s : ByteArray) (p : Int) (c : Bool) (i : Nat) (w : World) :
    Calls Tryd.prog 55 #[dcV s p c, .int .i64 i] w fun e w' => e = .returned (.int .u8 (dgt s i : Nat)) ∧ Below w.heap.size w w' := by
  unfold dcV
  by_cases h : i < s.size
  · rw [dgt_lt h]
    go_enter Tryd.func55, Tryd.ntmps55
    go_wp2
    go_ret
    exact ⟨rfl, (Below.refl _ _).alloc (Nat.le_refl _) _⟩
  · rw [dgt_ge (by omega)]
    go_enter Tryd.func55, Tryd.ntmps55
    go_wp2
    go_ret
    exact ⟨rfl, (Below.refl _ _).alloc (Nat.le_refl _) _⟩

end Go.Proofs.YtladeppjccfbhaaDoor
