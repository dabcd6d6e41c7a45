/-
  Holds: VShM.
-/
import Derived.Test.YtohhmobfmmeohaaGreatDoorRows
import Derived.Laws.Externs
import Derived.WalkKit
import Derived.WalkSpells
import Derived.WalkLawsBesides
import Derived.Lib.Mul64
import Derived.Lib.TrailingZeros
import Derived.Test.YtohhmobfmmeohaaGreatDoorKi0
set_option maxRecDepth 100000
set_option maxHeartbeats 4000000
namespace Go.Proofs.YtohhmobfmmeohaaGreatDoor
open Go.RowKit
theorem pow_cast (s : Nat) : ((2 : Int) ^ s) = ((2 ^ s : Nat) : Int) := by push_cast; rfl
theorem shl_or (a c s : Nat) (h1 : s ≤ 64) (hc : c < 2 ^ s) : (a * 2 ^ s % 18446744073709551616) ||| c = (a * 2 ^ s + c) % 18446744073709551616 := by
 have p2 : 2 ^ (64 - s) * 2 ^ s = 18446744073709551616 := by rw [← Nat.pow_add, show 64 - s + s = 64 by omega]
 have e : a * 2 ^ s % 18446744073709551616 = 2 ^ s * (a % 2 ^ (64 - s)) := by
  rw [← p2, Nat.mul_mod_mul_right, Nat.mul_comm]
 have l : 2 ^ s * (a % 2 ^ (64 - s)) + c < 18446744073709551616 := by
  have q : a % 2 ^ (64 - s) + 1 ≤ 2 ^ (64 - s) := Nat.mod_lt _ (Nat.pow_pos (by omega))
  have r := Nat.mul_le_mul_left (2 ^ s) q
  rw [Nat.mul_add, Nat.mul_comm (2 ^ s) (2 ^ (64 - s)), p2] at r
  omega
 rw [e, ← Nat.two_pow_add_eq_or_of_lt hc, Nat.add_mod, e]
 have c2 : c < 18446744073709551616 := by omega
 rw [Nat.mod_eq_of_lt c2, Nat.mod_eq_of_lt l]
end Go.Proofs.YtohhmobfmmeohaaGreatDoor
