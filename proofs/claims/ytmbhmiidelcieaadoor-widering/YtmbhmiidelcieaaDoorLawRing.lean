/-
  The statement WideRing: for all numbers a, b of two words, all divisors and all distances the call of WideRing returns true, where the table of math/bits lies as the program's text lays it.
-/
import Derived.Test.YtmbhmiidelcieaaDoorRingB
import Derived.Test.YtmbhmiidelcieaaDoorRingC
import Derived.Test.YtmbhmiidelcieaaDoorRingD
import Derived.Test.YtmbhmiidelcieaaDoorRingE
namespace Go.Proofs.YtmbhmiidelcieaaDoor
open Go.RowKit

theorem law_ring (ah al bh bl c n : Int) (h1 : Word ah) (h2 : Word al) (h3 : Word bh) (h4 : Word bl) (h5 : Word c) (w : World) (hT : Tab w) :
    Calls Tryd.prog 6 #[.agg #[.int .u64 ah, .int .u64 al], .agg #[.int .u64 bh, .int .u64 bl], .agg #[.int .u64 c, .int .i64 n]] w fun e w' => e = .returned (.bool true) ∧ Below w.heap.size w w' := by
  have p := h5.1
  by_cases z : c = 0
  · subst z
    by_cases r : 0 ≤ n ∧ n < 128
    · exact law_ring_zi ah al bh bl n h1 h2 h3 h4 r.1 r.2 w hT
    · exact law_ring_zo ah al bh bl n h1 h2 h3 h4 (by omega) w
  · by_cases r : 0 ≤ n ∧ n < 128
    · exact law_ring_ni ah al bh bl c n h1 h2 h3 h4 h5 (by omega) r.1 r.2 w hT
    · exact law_ring_no ah al bh bl c n h1 h2 h3 h4 h5 (by omega) (by omega) w

end Go.Proofs.YtmbhmiidelcieaaDoor
