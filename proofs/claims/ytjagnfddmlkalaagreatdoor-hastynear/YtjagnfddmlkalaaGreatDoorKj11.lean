/-
  Holds: IvN.
-/
import Derived.Test.YtjagnfddmlkalaaGreatDoorRows
import Derived.Laws.Externs
import Derived.WalkKit
import Derived.WalkSpells
import Derived.WalkLawsBesides
import Derived.Lib.Mul64
import Derived.Stop.Asserts
import Derived.RowKitTokens
import Derived.Lib.Strings
import Derived.Lib.BufferWrite
import Derived.Deep.OwnRows
import Derived.Deep.RegionHeld3
import Derived.BigQuiet
import Derived.Lib.ConvBytes
import Derived.Laws.CopyOwn
import Derived.Lib.TrailingZeros
import Derived.Lib.ItoaNum
import Derived.Deep.LoopGhost
import Derived.Test.YtjagnfddmlkalaaGreatDoorKj9
set_option maxRecDepth 100000
set_option maxHeartbeats 4000000
namespace Go.Proofs.YtjagnfddmlkalaaGreatDoor
open Go.RowKit
def Fs (f T : Nat) (L : Int) : Prop := (f = 23 ∧ T = 255 ∧ L = -149) ∨ (f = 52 ∧ T = 2047 ∧ L = -1074)
def vlF (f : Nat) (L : Int) (m : Nat) : Nat := fv (mt f m) (xp f L m)
def hiF (f : Nat) (L : Int) (m : Nat) : Nat := fv (2 * mt f m + 1) (xp f L m - 1)
def loF (f : Nat) (L : Int) : Nat → Nat
 | 0 => 0
 | k + 1 => hiF f L k
theorem mt_lt {f T : Nat} {L : Int} (h : Fs f T L) (m : Nat) : mt f m < 2 ^ 53 := by
 have g := (parts_good f L m).1
 rcases h with ⟨rfl, _, _⟩ | ⟨rfl, _, _⟩
 · exact Nat.lt_of_lt_of_le g (by decide)
 · exact g
theorem xp_in {f T : Nat} {L : Int} (h : Fs f T L) {m : Nat} (hm : m < T * 2 ^ f) : -1074 ≤ xp f L m ∧ xp f L m ≤ 971 := by
 have g := (parts_good f L m).2.1
 have q : m / 2 ^ f < T := by rw [Nat.div_lt_iff_lt_mul (Nat.two_pow_pos f)]; exact hm
 unfold xp at g ⊢
 generalize m / 2 ^ f = d at *
 rcases h with ⟨rfl, rfl, rfl⟩ | ⟨rfl, rfl, rfl⟩ <;> (split at g <;> (split <;> omega))
theorem mt_some {f m : Nat} (h0 : m ≠ 0) : 0 < mt f m := by
 unfold mt
 have := Nat.two_pow_pos f
 split <;> omega
end Go.Proofs.YtjagnfddmlkalaaGreatDoor
