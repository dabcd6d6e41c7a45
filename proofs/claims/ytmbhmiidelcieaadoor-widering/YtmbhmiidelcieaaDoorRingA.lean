/-
  The statement WideRing: for all numbers a, b of two words, all divisors and all distances the call of WideRing returns true, where the table of math/bits lies as the program's text lays it.
-/
import Derived.Test.YtmbhmiidelcieaaDoorRingM
import Derived.Test.YtmbhmiidelcieaaDoorRead
import Derived.Test.YtmbhmiidelcieaaDoorShift3
import Derived.Deep.RegionHeld3
namespace Go.Proofs.YtmbhmiidelcieaaDoor
open Go.RowKit

theorem txt_small {V : Nat} (h : V < 340282366920938463463374607431768211456) : (txt V).size ≤ maxLen := by
  rw [txt_size]
  have a := Lib.nDigits_pos V
  have b : Lib.nDigits V ≤ 39 := by
    by_cases c : Lib.nDigits V = 1
    · omega
    · have d := nd_first c
      have pp : 0 < 10 ^ (Lib.nDigits V - 1) := Nat.pow_pos (by omega)
      have e : V / 10 ^ (Lib.nDigits V - 1) ≠ 0 := by
        intro z
        have := (Nat.div_eq_zero_iff_lt pp).mp z
        omega
      have := few_digits h e
      omega
  unfold maxLen
  omega

/-- The text of a number is read as the number. -/
theorem wread_txt (V : Nat) (h : V < 340282366920938463463374607431768211456) (w : World) :
    Calls Tryd.prog 19 #[.string (txt V)] w fun e w' => e = .returned (.tuple #[.agg #[.int .u64 (hiW V), .int .u64 (loW V)], .nilIface]) ∧ Below w.heap.size w w' := by
  refine (wread_num (txt V) (txt_small h) (isNumB_true (txt_isNum V)).symm w).mono ?_
  rintro e w' ⟨he, hb⟩
  rw [txt_whole] at he
  rcases he with ⟨_, he⟩ | ⟨hg, _⟩
  · exact ⟨he, hb⟩
  · omega

end Go.Proofs.YtmbhmiidelcieaaDoor
