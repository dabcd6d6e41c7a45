/-
  What the calls of the document's Add and Sub answer, for all numbers of two words: nothing that was there turns.
-/
import Derived.Test.YtladeppjccfbhaaDoorWide1
import Derived.RegionTactic
import Derived.ChangeAlike
import Derived.BigRegion
import Derived.Deep.RegionHeld3
namespace Go.Proofs.YtladeppjccfbhaaDoor
open Go.RowKit

theorem ret_nb {x x' y y' : Int} {b b' : Bool} (hx : x = x') (hy : y = y') (hb : b = b') :
    Ending.returned (.tuple #[.agg #[.int .u64 x, .int .u64 y], .bool b]) = .returned (.tuple #[.agg #[.int .u64 x', .int .u64 y'], .bool b']) := by rw [hx, hy, hb]

set_option maxHeartbeats 400000 in
theorem radd_any (ah al bh bl : Int) (h1 : Word ah) (h2 : Word al) (h3 : Word bh) (h4 : Word bl) (w : World) :
    Calls Tryd.prog 82 #[.agg #[.int .u64 ah, .int .u64 al], .agg #[.int .u64 bh, .int .u64 bl]] w fun e w' =>
      e = .returned (.tuple #[.agg #[.int .u64 (sHi ah al bh bl), .int .u64 (sLo al bl)], .bool (sOv ah al bh bl)]) ∧ Below w.heap.size w w' := by
  go_enter Tryd.func82, Tryd.ntmps82
  go_wp2
  all_goals
    refine bodyPost_ret (v := _) (by simp [results, Tryd.results82, go_sem]; rfl) rfl ⟨?_, ((((Below.refl _ _).alloc (Nat.le_refl _) _).alloc (by simp) _).alloc (by simp; omega) _).alloc (by simp; omega) _⟩
    unfold Word at h1 h2 h3 h4
    simp only [IntKind.wrap_u64] at *
    apply ret_nb
    · unfold sHi a3Lo a3C; omega
    · unfold sLo a3Lo; omega
    · unfold sOv a3C; first | (rw [Bool.eq_iff_iff]; simp; omega) | (symm; simp; omega)


end Go.Proofs.YtladeppjccfbhaaDoor
