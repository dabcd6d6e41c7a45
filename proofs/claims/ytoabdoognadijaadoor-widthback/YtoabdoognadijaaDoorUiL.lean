/-
  base's Len: what it answers for every input.
-/
import Derived.Test.YtoabdoognadijaaDoorUiA
namespace Go.Proofs.YtoabdoognadijaaDoor
open Go.RowKit

end Go.Proofs.YtoabdoognadijaaDoor
