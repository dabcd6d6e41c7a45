/-
  The program's small road: what exact.ten, single, double answer: native floats where they are exact.
-/
import Derived.Test.YtfoaeholbidngaaGreatDoorIeN
import Derived.Test.YtfoaeholbidngaaGreatDoorChecked
import Derived.Laws.Externs
import Derived.WalkKit
import Derived.WalkSpells
import Derived.WalkLawsBesides
namespace Go.Proofs.YtfoaeholbidngaaGreatDoor
open Go.RowKit

/-- What a number times a power of ten is rounded to. -/
def exA (f T : Nat) (L : Int) (m : Nat) (e : Int) : Nat := (rdA f T L (m * 10 ^ e.toNat) (10 ^ (-e).toNat) 0 false).1
theorem exA_up {f T : Nat} {L : Int} {m k : Nat} : exA f T L m (k : Int) = (rdA f T L (m * 10 ^ k) 1 0 false).1 := by
  unfold exA
  rw [Int.toNat_natCast, show (-(k : Int)).toNat = 0 from by omega, Nat.pow_zero]
theorem exA_dn {f T : Nat} {L : Int} {m k : Nat} : exA f T L m (-(k : Int)) = (rdA f T L m (10 ^ k) 0 false).1 := by
  unfold exA
  rw [show (- -(k : Int)).toNat = k from by omega, show (-(k : Int)).toNat = 0 from by omega, Nat.pow_zero, Nat.mul_one]
theorem is_one64 : Is 52 2047 (-1074) 1 4607182418800017408 := ⟨by decide, -52, by decide, by decide +kernel, by decide +kernel⟩
theorem is_tens64 : Is 52 2047 (-1074) 10 4621819117588971520 := ⟨by decide, -49, by decide, by decide +kernel, by decide +kernel⟩
theorem ten_ne (k : Nat) : 10 ^ k ≠ 0 := Nat.ne_of_gt (Nat.pow_pos (by decide))

/-- A whole number that both sizes hold, narrowed. -/
theorem narrow_is {n b b' : Nat} (n0 : n ≠ 0) (h : Is 52 2047 (-1074) n b) (h' : Is 23 255 (-149) n b') : floatToFloatBits .f64 b .f32 = some b' := by
  have e1 : FloatKind.f64.decode b = .number false (mt 52 b) (xp 52 (-1074) b) := read_fin fmtF64 h.1
  have e2 : FloatKind.f32.encode (.number false (mt 52 b) (xp 52 (-1074) b)) = b' := by
    show FloatKind.f32.format.nearest false (mt 52 b) (xp 52 (-1074) b) = b'
    rw [nearest_rd fmtF32]
    have e := h'.rd (by decide) n0
    rw [rdA_same (d := 1) (d' := 1) (n' := mt 52 b) (e' := xp 52 (-1074) b) (by decide) (by decide) (by decide) (by rw [Nat.mul_one, Nat.mul_one]; exact h.2)] at e
    rw [e]
  have e3 : FloatKind.f32.decode b' = .number false (mt 23 b') (xp 23 (-149) b') := read_fin fmtF32 h'.1
  unfold floatToFloatBits
  rw [if_neg (by decide), e1]
  simp only [e2, e3, Ieee.Datum.isInfinity]
  rfl
end Go.Proofs.YtfoaeholbidngaaGreatDoor
