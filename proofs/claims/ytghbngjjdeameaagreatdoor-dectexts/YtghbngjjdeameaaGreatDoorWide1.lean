/-
  What the calls of wide.Add, Sub, Compare and of the document's Add, Sub, Compare answer, for all numbers of two words: nothing that was there turns.
-/
import Derived.Test.YtghbngjjdeameaaGreatDoorBits
import Derived.BigQuiet
import Derived.Deep.QuietTactic
namespace Go.Proofs.YtghbngjjdeameaaGreatDoor
open Go.RowKit




set_option maxHeartbeats 400000 in
theorem rcmp_any (ah al bh bl : Int) (w : World) :
    Calls Tryz.prog 72 #[.agg #[.int .u64 ah, .int .u64 al], .agg #[.int .u64 bh, .int .u64 bl]] w fun e w' =>
      e = .returned (.int .i64 (cmp ah al bh bl)) ∧ Below w.heap.size w w' := by
  rcases Int.lt_trichotomy ah bh with g | g | g
  · have g1 : (ah == bh) = false := by simp; omega
    go_enter Tryz.func72, Tryz.ntmps72
    go_wp2
    go_ret
    exact ⟨by rw [cmp_lt g]; rfl, ((Below.refl _ _).alloc (Nat.le_refl _) _).alloc (by simp) _⟩
  · subst g
    rcases Int.lt_trichotomy al bl with g | g | g
    · have g1 : (al == bl) = false := by simp; omega
      go_enter Tryz.func72, Tryz.ntmps72
      go_wp2
      go_ret
      exact ⟨by rw [cmp_elt g]; rfl, ((Below.refl _ _).alloc (Nat.le_refl _) _).alloc (by simp) _⟩
    · subst g
      go_enter Tryz.func72, Tryz.ntmps72
      go_wp2
      go_ret
      exact ⟨by rw [cmp_ee]; rfl, ((Below.refl _ _).alloc (Nat.le_refl _) _).alloc (by simp) _⟩
    · have g1 : (al == bl) = false := by simp; omega
      go_enter Tryz.func72, Tryz.ntmps72
      go_wp2
      go_ret
      exact ⟨by rw [cmp_egt g]; rfl, ((Below.refl _ _).alloc (Nat.le_refl _) _).alloc (by simp) _⟩
  · have g1 : (ah == bh) = false := by simp; omega
    go_enter Tryz.func72, Tryz.ntmps72
    go_wp2
    go_ret
    exact ⟨by rw [cmp_gt g]; rfl, ((Below.refl _ _).alloc (Nat.le_refl _) _).alloc (by simp) _⟩

end Go.Proofs.YtghbngjjdeameaaGreatDoor
