/-
  What calls of math/bits.Add64, Sub64 and Mul64 answer, for all words (a carry or borrow of 0 or 1): sum, difference, product, and what passes a word.
-/
import Derived.Test.YtkmnkogbafhfdaaDoorRows
import Derived.Test.YtkmnkogbafhfdaaDoorMath
import Derived.Laws.Externs
import Derived.WalkKit
import Derived.WalkSpells
import Derived.WalkLawsBesides
import Derived.Lib.Mul64
import Derived.Laws.Bits64b
namespace Go.Proofs.YtkmnkogbafhfdaaDoor
open Go.RowKit



theorem bcell {W w1 : World} (hb : Below W.heap.size W w1) : (∀ b o, b < W.heap.size → w1.cell? ⟨b, o, none⟩ = W.cell? ⟨b, o, none⟩) ∧ (∀ b o, b < W.heap.size → w1.frozen? ⟨b, o, none⟩ = W.frozen? ⟨b, o, none⟩) :=
  ⟨fun b o h => hb.cell (p := ⟨b, o, none⟩) h, fun b o h => hb.frozen (p := ⟨b, o, none⟩) h⟩

end Go.Proofs.YtkmnkogbafhfdaaDoor
