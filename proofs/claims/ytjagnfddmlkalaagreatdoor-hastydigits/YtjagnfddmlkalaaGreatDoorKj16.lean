/-
  Holds: VShM.
-/
import Derived.Test.YtjagnfddmlkalaaGreatDoorRows
import Derived.Laws.Externs
import Derived.WalkKit
import Derived.WalkSpells
import Derived.WalkLawsBesides
import Derived.Lib.Mul64
import Derived.Lib.TrailingZeros
import Derived.Test.YtjagnfddmlkalaaGreatDoorKj3
set_option maxRecDepth 100000
set_option maxHeartbeats 4000000
namespace Go.Proofs.YtjagnfddmlkalaaGreatDoor
open Go.RowKit
def val (h l : Int) : Nat := (h * 18446744073709551616 + l).toNat
def hiW (v : Nat) : Int := ((v / 18446744073709551616 : Nat) : Int)
def loW (v : Nat) : Int := ((v % 18446744073709551616 : Nat) : Int)
theorem val_lt {h l : Int} (h1 : Word h) (h2 : Word l) : val h l < 340282366920938463463374607431768211456 := by
 unfold Word at *; unfold val; omega
theorem hiW_val {h l : Int} (h1 : Word h) (h2 : Word l) : hiW (val h l) = h := by
 unfold Word at *; unfold val hiW; omega
theorem loW_val {h l : Int} (h1 : Word h) (h2 : Word l) : loW (val h l) = l := by
 unfold Word at *; unfold val loW; omega
theorem hiW_word {v : Nat} (h : v < 340282366920938463463374607431768211456) : Word (hiW v) := by
 unfold Word hiW; omega
theorem loW_word (v : Nat) : Word (loW v) := by unfold Word loW; omega
theorem val_hl (v : Nat) : val (hiW v) (loW v) = v := by
 unfold val hiW loW; omega
theorem hiW_zero : hiW 0 = 0 := by decide
theorem loW_zero : loW 0 = 0 := by decide
theorem pow_cast (s : Nat) : ((2 : Int) ^ s) = ((2 ^ s : Nat) : Int) := by push_cast; rfl
theorem shl_nat (a b s : Nat) (hb : b < 18446744073709551616) (h1 : s ≤ 64) :
 ((a * 18446744073709551616 + b) * 2 ^ s) / 18446744073709551616 = a * 2 ^ s + b / 2 ^ (64 - s) ∧ ((a * 18446744073709551616 + b) * 2 ^ s) % 18446744073709551616 = b * 2 ^ s % 18446744073709551616 ∧ b / 2 ^ (64 - s) < 2 ^ s := by
 have p2 : 2 ^ (64 - s) * 2 ^ s = 18446744073709551616 := by rw [← Nat.pow_add, show 64 - s + s = 64 by omega]
 have s0 : 0 < 2 ^ s := Nat.pow_pos (by omega)
 have i4 : b * 2 ^ s / 18446744073709551616 = b / 2 ^ (64 - s) := by rw [← p2, Nat.mul_div_mul_right _ _ s0]
 have i5 : b / 2 ^ (64 - s) < 2 ^ s := by
  rw [Nat.div_lt_iff_lt_mul (Nat.pow_pos (by omega)), Nat.mul_comm, p2]; exact hb
 have e : (a * 18446744073709551616 + b) * 2 ^ s = a * 2 ^ s * 18446744073709551616 + b * 2 ^ s := by rw [Nat.add_mul, Nat.mul_right_comm]
 rw [e]
 refine ⟨by omega, by omega, i5⟩
theorem shl_or (a c s : Nat) (h1 : s ≤ 64) (hc : c < 2 ^ s) : (a * 2 ^ s % 18446744073709551616) ||| c = (a * 2 ^ s + c) % 18446744073709551616 := by
 have p2 : 2 ^ (64 - s) * 2 ^ s = 18446744073709551616 := by rw [← Nat.pow_add, show 64 - s + s = 64 by omega]
 have e : a * 2 ^ s % 18446744073709551616 = 2 ^ s * (a % 2 ^ (64 - s)) := by
  rw [← p2, Nat.mul_mod_mul_right, Nat.mul_comm]
 have l : 2 ^ s * (a % 2 ^ (64 - s)) + c < 18446744073709551616 := by
  have q : a % 2 ^ (64 - s) + 1 ≤ 2 ^ (64 - s) := Nat.mod_lt _ (Nat.pow_pos (by omega))
  have r := Nat.mul_le_mul_left (2 ^ s) q
  rw [Nat.mul_add, Nat.mul_comm (2 ^ s) (2 ^ (64 - s)), p2] at r
  omega
 rw [e, ← Nat.two_pow_add_eq_or_of_lt hc, Nat.add_mod, e]
 have c2 : c < 18446744073709551616 := by omega
 rw [Nat.mod_eq_of_lt c2, Nat.mod_eq_of_lt l]
theorem shl_words {h l : Int} (w1 : Word h) (w2 : Word l) (s : Nat) (h1 : s ≤ 64) :
 bits .or .u64 (IntKind.u64.wrap (h * 2 ^ s)) (l / 2 ^ (64 - s)) = hiW (val h l * 2 ^ s % 340282366920938463463374607431768211456) ∧ IntKind.u64.wrap (l * 2 ^ s) = loW (val h l * 2 ^ s % 340282366920938463463374607431768211456) := by
 obtain ⟨a, rfl⟩ := Int.eq_ofNat_of_zero_le w1.1
 obtain ⟨b, rfl⟩ := Int.eq_ofNat_of_zero_le w2.1
 have w22 := w2.2
 have hv : val (a : Int) (b : Int) = a * 18446744073709551616 + b := by unfold val; omega
 obtain ⟨e1, e2, e3⟩ := shl_nat a b s (by omega) h1
 have c1 : IntKind.u64.wrap ((a : Int) * 2 ^ s) = ((a * 2 ^ s % 18446744073709551616 : Nat) : Int) := by rw [pow_cast, ← Int.natCast_mul, IntKind.wrap_u64]; omega
 have c2 : IntKind.u64.wrap ((b : Int) * 2 ^ s) = ((b * 2 ^ s % 18446744073709551616 : Nat) : Int) := by rw [pow_cast, ← Int.natCast_mul, IntKind.wrap_u64]; omega
 have c3 : ((b : Int) / 2 ^ (64 - s)) = ((b / 2 ^ (64 - s) : Nat) : Int) := by rw [pow_cast, ← Int.natCast_ediv]
 have l3 : b / 2 ^ (64 - s) < 18446744073709551616 := Nat.lt_of_le_of_lt (Nat.div_le_self _ _) (by omega)
 constructor
 · rw [c1, c3, bits_or_u64_nat _ _ (Nat.mod_lt _ (by omega)) l3, shl_or a _ s h1 e3, ← e1, hv]
   unfold hiW
   generalize (a * 18446744073709551616 + b) * 2 ^ s = V
   omega
 · rw [c2, ← e2, hv]
   unfold loW
   generalize (a * 18446744073709551616 + b) * 2 ^ s = V
   omega
theorem shl_words64 {h l : Int} (w1 : Word h) (w2 : Word l) (s : Nat) (h1 : 64 ≤ s) :
 IntKind.u64.wrap (l * 2 ^ (s - 64)) = hiW (val h l * 2 ^ s % 340282366920938463463374607431768211456) ∧ 0 = loW (val h l * 2 ^ s % 340282366920938463463374607431768211456) := by
 obtain ⟨a, rfl⟩ := Int.eq_ofNat_of_zero_le w1.1
 obtain ⟨b, rfl⟩ := Int.eq_ofNat_of_zero_le w2.1
 have hv : val (a : Int) (b : Int) = a * 18446744073709551616 + b := by unfold val; omega
 have p : 2 ^ s = 2 ^ (s - 64) * 18446744073709551616 := by
  rw [show (18446744073709551616 : Nat) = 2 ^ 64 by decide, ← Nat.pow_add, show s - 64 + 64 = s by omega]
 have e : (a * 18446744073709551616 + b) * 2 ^ s = a * 2 ^ (s - 64) * 340282366920938463463374607431768211456 + b * 2 ^ (s - 64) * 18446744073709551616 := by
  rw [p, Nat.add_mul]
  have x1 : a * 18446744073709551616 * (2 ^ (s - 64) * 18446744073709551616) = a * 2 ^ (s - 64) * 340282366920938463463374607431768211456 := by
   generalize 2 ^ (s - 64) = q
   rw [Nat.mul_mul_mul_comm]
  have x2 : b * (2 ^ (s - 64) * 18446744073709551616) = b * 2 ^ (s - 64) * 18446744073709551616 := by rw [Nat.mul_assoc]
  rw [x1, x2]
 have c2 : IntKind.u64.wrap ((b : Int) * 2 ^ (s - 64)) = ((b * 2 ^ (s - 64) % 18446744073709551616 : Nat) : Int) := by rw [pow_cast, ← Int.natCast_mul, IntKind.wrap_u64]; omega
 rw [hv, e, c2]
 unfold hiW loW
 generalize a * 2 ^ (s - 64) = x
 generalize b * 2 ^ (s - 64) = y
 constructor <;> omega
theorem shl_none (v s : Nat) (h1 : 128 ≤ s) : v * 2 ^ s % 340282366920938463463374607431768211456 = 0 := by
 have p : 2 ^ s = 2 ^ (s - 128) * 340282366920938463463374607431768211456 := by
  rw [show (340282366920938463463374607431768211456 : Nat) = 2 ^ 128 by decide, ← Nat.pow_add, show s - 128 + 128 = s by omega]
 rw [p, ← Nat.mul_assoc, Nat.mul_mod_left]
def shl (v : Nat) (n : Int) : Nat := v * 2 ^ n.toNat % 340282366920938463463374607431768211456
end Go.Proofs.YtjagnfddmlkalaaGreatDoor
