/-
  What the call of nat.digitValue answers: a digit's value, or 36.
-/
import Derived.Test.YtbmcegoebhbglabDoorNatU
namespace Go.Proofs.YtbmcegoebhbglabDoor
open Go.RowKit

/-- A byte's value as a digit; 36: none. -/
def dv (c : Nat) : Nat := if 48 ≤ c ∧ c ≤ 57 then c - 48 else if 97 ≤ c ∧ c ≤ 122 then c - 87 else if 65 ≤ c ∧ c ≤ 90 then c - 55 else 36

set_option maxRecDepth 100000 in
set_option maxHeartbeats 1000000 in
theorem digit_any (c : Nat) (hc : c < 256) (w : World) :
    Calls Tryd.prog 64 #[.int .u8 (c : Int)] w fun e w' => e = .returned (.int .i64 (dv c : Int)) ∧ w' = w := by
  by_cases a : 48 ≤ c ∧ c ≤ 57
  · have e : ((dv c : Nat) : Int) = (c : Int) - 48 := by unfold dv; rw [if_pos a]; omega
    rw [e]
    obtain ⟨a1, a2⟩ := a
    have b1 : (48 : Int) ≤ (c : Int) := by omega
    have b2 : (c : Int) ≤ 57 := by omega
    clear e
    go_enter Tryd.func64, Tryd.ntmps64
    go_wp2
    go_ret
    exact ⟨rfl, rfl⟩
  · have na : ¬ ((48 : Int) ≤ (c : Int) ∧ (c : Int) ≤ 57) := by omega
    by_cases b : 97 ≤ c ∧ c ≤ 122
    · have e : ((dv c : Nat) : Int) = (c : Int) - 97 + 10 := by unfold dv; rw [if_neg a, if_pos b]; omega
      rw [e]
      obtain ⟨a1, a2⟩ := b
      have b1 : (97 : Int) ≤ (c : Int) := by omega
      have b2 : (c : Int) ≤ 122 := by omega
      have b3 : ¬ (c : Int) ≤ 57 := by omega
      clear e a na
      go_enter Tryd.func64, Tryd.ntmps64
      go_wp2
      go_ret
      exact ⟨rfl, rfl⟩
    · by_cases d : 65 ≤ c ∧ c ≤ 90
      · have e : ((dv c : Nat) : Int) = (c : Int) - 65 + 10 := by unfold dv; rw [if_neg a, if_neg b, if_pos d]; omega
        rw [e]
        obtain ⟨a1, a2⟩ := d
        have b1 : (65 : Int) ≤ (c : Int) := by omega
        have b2 : (c : Int) ≤ 90 := by omega
        have b3 : ¬ (c : Int) ≤ 57 := by omega
        have b4 : ¬ (97 : Int) ≤ (c : Int) := by omega
        clear e a na b
        go_enter Tryd.func64, Tryd.ntmps64
        go_wp2
        go_ret
        exact ⟨rfl, rfl⟩
      · have e : ((dv c : Nat) : Int) = 36 := by unfold dv; rw [if_neg a, if_neg b, if_neg d]; rfl
        rw [e]
        clear e
        go_enter Tryd.func64, Tryd.ntmps64
        go_wp2
        all_goals first | omega | (go_ret; exact ⟨rfl, rfl⟩)

end Go.Proofs.YtbmcegoebhbglabDoor
