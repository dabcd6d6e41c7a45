/-
  Holds: VDecH.
-/
import Derived.Test.YtjagnfddmlkalaaGreatDoorRows
import Derived.Laws.Externs
import Derived.WalkKit
import Derived.WalkSpells
import Derived.WalkLawsBesides
import Derived.Lib.Mul64
import Derived.Stop.Asserts
import Derived.RowKitTokens
import Derived.Lib.Strings
import Derived.Lib.BufferWrite
import Derived.Deep.OwnRows
import Derived.Deep.RegionHeld3
import Derived.BigQuiet
import Derived.Lib.ConvBytes
import Derived.Test.YtjagnfddmlkalaaGreatDoorKj2
set_option maxRecDepth 100000
set_option maxHeartbeats 4000000
namespace Go.Proofs.YtjagnfddmlkalaaGreatDoor
open Go.RowKit
theorem zeros_at (s : ByteArray) : ∀ n, ∃ m, m ≤ n ∧ (∀ j, m ≤ j → j < n → dgt s j = 48) ∧ (0 < m → dgt s (m - 1) ≠ 48)
  | 0 => ⟨0, Nat.le_refl _, fun _ _ h => absurd h (Nat.not_lt_zero _), fun h => absurd h (Nat.lt_irrefl _)⟩
  | n + 1 => by
    by_cases c : dgt s n = 48
    · obtain ⟨m, h1, h2, h3⟩ := zeros_at s n
      refine ⟨m, by omega, fun j a b => ?_, h3⟩
      by_cases z : j = n
      · rw [z]; exact c
      · exact h2 j a (by omega)
    · exact ⟨n + 1, Nat.le_refl _, fun j a b => absurd a (by omega), fun _ => c⟩
end Go.Proofs.YtjagnfddmlkalaaGreatDoor
