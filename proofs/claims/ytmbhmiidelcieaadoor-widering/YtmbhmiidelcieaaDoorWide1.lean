/-
  What the calls of wide.Add, Sub, Compare and of the document's Add, Sub, Compare answer, for all numbers of two words: nothing that was there turns.
-/
import Derived.Test.YtmbhmiidelcieaaDoorBits
import Derived.BigQuiet
import Derived.Deep.QuietTactic
namespace Go.Proofs.YtmbhmiidelcieaaDoor
open Go.RowKit

set_option maxHeartbeats 400000 in
theorem wadd_any (ah al bh bl : Int) (h1 : Word ah) (h2 : Word al) (h3 : Word bh) (h4 : Word bl) (w : World) :
    Calls Tryd.prog 23 #[.agg #[.int .u64 ah, .int .u64 al], .agg #[.int .u64 bh, .int .u64 bl]] w fun e w' =>
      e = .returned (.tuple #[.agg #[.int .u64 (sHi ah al bh bl), .int .u64 (sLo al bl)], .bool (sOv ah al bh bl)]) ∧ Below w.heap.size w w' := by
  have k := a3C_01 h2 h4 (Int.le_refl 0) (by omega : (0:Int) ≤ 1)
  go_enter Tryd.func23, Tryd.ntmps23
  go_wp2_with (first | simp only [add64 al bl 0 h2 h4 (Int.le_refl 0) (by omega : (0:Int) ≤ 1)] | simp only [add64 ah bh _ h1 h3 k.1 k.2])
  exact bodyPost_ret (v := .tuple #[.agg #[.int .u64 (sHi ah al bh bl), .int .u64 (sLo al bl)], .bool (sOv ah al bh bl)]) (by simp [results, Tryd.results23, go_sem, sHi, sLo, sOv]) rfl ⟨rfl, (((Below.refl _ _).alloc (Nat.le_refl _) _).alloc (by simp) _).alloc (by simp; omega) _⟩

set_option maxHeartbeats 400000 in
theorem wsub_any (ah al bh bl : Int) (h1 : Word ah) (h2 : Word al) (h3 : Word bh) (h4 : Word bl) (w : World) :
    Calls Tryd.prog 24 #[.agg #[.int .u64 ah, .int .u64 al], .agg #[.int .u64 bh, .int .u64 bl]] w fun e w' =>
      e = .returned (.tuple #[.agg #[.int .u64 (dHi ah al bh bl), .int .u64 (dLo al bl)], .bool (dUn ah al bh bl)]) ∧ Below w.heap.size w w' := by
  have k := s3B_01 al bl 0
  go_enter Tryd.func24, Tryd.ntmps24
  go_wp2_with (first | simp only [sub64 al bl 0 h2 h4 (Int.le_refl 0) (by omega : (0:Int) ≤ 1)] | simp only [sub64 ah bh _ h1 h3 k.1 k.2])
  exact bodyPost_ret (v := .tuple #[.agg #[.int .u64 (dHi ah al bh bl), .int .u64 (dLo al bl)], .bool (dUn ah al bh bl)]) (by simp [results, Tryd.results24, go_sem, dHi, dLo, dUn]) rfl ⟨rfl, (((Below.refl _ _).alloc (Nat.le_refl _) _).alloc (by simp) _).alloc (by simp; omega) _⟩

set_option maxHeartbeats 400000 in
theorem wcmp_any (ah al bh bl : Int) (w : World) :
    Calls Tryd.prog 26 #[.agg #[.int .u64 ah, .int .u64 al], .agg #[.int .u64 bh, .int .u64 bl]] w fun e w' =>
      e = .returned (.int .i64 (cmp ah al bh bl)) ∧ Below w.heap.size w w' := by
  rcases Int.lt_trichotomy ah bh with g | g | g
  · have g1 : (ah == bh) = false := by simp; omega
    go_enter Tryd.func26, Tryd.ntmps26
    go_wp2
    go_ret
    exact ⟨by rw [cmp_lt g]; rfl, ((Below.refl _ _).alloc (Nat.le_refl _) _).alloc (by simp) _⟩
  · subst g
    rcases Int.lt_trichotomy al bl with g | g | g
    · have g1 : (al == bl) = false := by simp; omega
      go_enter Tryd.func26, Tryd.ntmps26
      go_wp2
      go_ret
      exact ⟨by rw [cmp_elt g]; rfl, ((Below.refl _ _).alloc (Nat.le_refl _) _).alloc (by simp) _⟩
    · subst g
      go_enter Tryd.func26, Tryd.ntmps26
      go_wp2
      go_ret
      exact ⟨by rw [cmp_ee]; rfl, ((Below.refl _ _).alloc (Nat.le_refl _) _).alloc (by simp) _⟩
    · have g1 : (al == bl) = false := by simp; omega
      go_enter Tryd.func26, Tryd.ntmps26
      go_wp2
      go_ret
      exact ⟨by rw [cmp_egt g]; rfl, ((Below.refl _ _).alloc (Nat.le_refl _) _).alloc (by simp) _⟩
  · have g1 : (ah == bh) = false := by simp; omega
    go_enter Tryd.func26, Tryd.ntmps26
    go_wp2
    go_ret
    exact ⟨by rw [cmp_gt g]; rfl, ((Below.refl _ _).alloc (Nat.le_refl _) _).alloc (by simp) _⟩

set_option maxHeartbeats 400000 in
theorem rcmp_any (ah al bh bl : Int) (w : World) :
    Calls Tryd.prog 32 #[.agg #[.int .u64 ah, .int .u64 al], .agg #[.int .u64 bh, .int .u64 bl]] w fun e w' =>
      e = .returned (.int .i64 (cmp ah al bh bl)) ∧ Below w.heap.size w w' := by
  rcases Int.lt_trichotomy ah bh with g | g | g
  · have g1 : (ah == bh) = false := by simp; omega
    go_enter Tryd.func32, Tryd.ntmps32
    go_wp2
    go_ret
    exact ⟨by rw [cmp_lt g]; rfl, ((Below.refl _ _).alloc (Nat.le_refl _) _).alloc (by simp) _⟩
  · subst g
    rcases Int.lt_trichotomy al bl with g | g | g
    · have g1 : (al == bl) = false := by simp; omega
      go_enter Tryd.func32, Tryd.ntmps32
      go_wp2
      go_ret
      exact ⟨by rw [cmp_elt g]; rfl, ((Below.refl _ _).alloc (Nat.le_refl _) _).alloc (by simp) _⟩
    · subst g
      go_enter Tryd.func32, Tryd.ntmps32
      go_wp2
      go_ret
      exact ⟨by rw [cmp_ee]; rfl, ((Below.refl _ _).alloc (Nat.le_refl _) _).alloc (by simp) _⟩
    · have g1 : (al == bl) = false := by simp; omega
      go_enter Tryd.func32, Tryd.ntmps32
      go_wp2
      go_ret
      exact ⟨by rw [cmp_egt g]; rfl, ((Below.refl _ _).alloc (Nat.le_refl _) _).alloc (by simp) _⟩
  · have g1 : (ah == bh) = false := by simp; omega
    go_enter Tryd.func32, Tryd.ntmps32
    go_wp2
    go_ret
    exact ⟨by rw [cmp_gt g]; rfl, ((Below.refl _ _).alloc (Nat.le_refl _) _).alloc (by simp) _⟩

end Go.Proofs.YtmbhmiidelcieaaDoor
