/-
  The document's Prefix at a base that may be read: what it answers for every text.
-/
import Derived.Test.YtoabdoognadijaaDoorUiJ
namespace Go.Proofs.YtoabdoognadijaaDoor
open Go.RowKit

end Go.Proofs.YtoabdoognadijaaDoor
