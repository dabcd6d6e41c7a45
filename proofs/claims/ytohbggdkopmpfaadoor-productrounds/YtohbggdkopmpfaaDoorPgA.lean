/-
  What the calls of powers.within, lengthOf, wordPower, Digits, Bits, Ten and Five answer.
-/
import Derived.Test.YtohbggdkopmpfaaDoorPwP
namespace Go.Proofs.YtohbggdkopmpfaaDoor
open Go.RowKit

theorem within_yes (n a b : Int) (h1 : a ≤ n) (h2 : n ≤ b) (w : World) : Calls Tryd.prog 17 #[.int .i64 n, .int .i64 a, .int .i64 b] w fun e w' => e = .returned (.bool true) ∧ w' = w := by
  go_enter Tryd.func17, Tryd.ntmps17
  go_wp2
  go_ret
  exact ⟨rfl, rfl⟩
theorem within_no (n a b : Int) (h : n < a ∨ b < n) (w : World) : Calls Tryd.prog 17 #[.int .i64 n, .int .i64 a, .int .i64 b] w fun e w' => e = .returned (.bool false) ∧ w' = w := by
  by_cases c : a ≤ n
  · have c2 : ¬ n ≤ b := by omega
    go_enter Tryd.func17, Tryd.ntmps17
    go_wp2
    go_ret
    exact ⟨rfl, rfl⟩
  · go_enter Tryd.func17, Tryd.ntmps17
    go_wp2
    go_ret
    exact ⟨rfl, rfl⟩

/-- How many digits a power has ahead of its point, by a logarithm; the error's number. -/
def lgD (n : Int) : Int := if n < -1100 ∨ 1100 < n then 0 else n * 1292913986 / 4294967296 + 1
def lgB (n : Int) : Int := if n < -1100 ∨ 1100 < n then 0 else n * 14267572527 / 4294967296 + 1
def lgE (n : Int) : Nat := if n < -1100 ∨ 1100 < n then 1 else 0
/-- A power in a word, if it is one of the first; the error's number. -/
def wpX (b : Nat) (m : Nat) (n : Int) : Nat := if n < 0 ∨ (m : Int) < n then 0 else b ^ n.toNat
def wpE (m : Nat) (n : Int) : Nat := if n < 0 ∨ (m : Int) < n then 1 else 0
end Go.Proofs.YtohbggdkopmpfaaDoor
