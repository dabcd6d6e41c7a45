/-
  What the calls of the document's Add and Sub answer, for all numbers of two words: nothing that was there turns.
-/
import Derived.Test.YtkkgancmodhghaaDoorWide1
import Derived.RegionTactic
import Derived.ChangeAlike
import Derived.BigRegion
import Derived.Deep.RegionHeld3
namespace Go.Proofs.YtkkgancmodhghaaDoor
open Go.RowKit

theorem ret_nb {x x' y y' : Int} {b b' : Bool} (hx : x = x') (hy : y = y') (hb : b = b') :
    Ending.returned (.tuple #[.agg #[.int .u64 x, .int .u64 y], .bool b]) = .returned (.tuple #[.agg #[.int .u64 x', .int .u64 y'], .bool b']) := by rw [hx, hy, hb]



end Go.Proofs.YtkkgancmodhghaaDoor
