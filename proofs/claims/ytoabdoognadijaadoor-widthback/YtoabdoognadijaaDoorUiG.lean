/-
  uints' Format, Group, Pad without the errors: digits in groups: grouped; what is wrapped.
-/
import Derived.Test.YtoabdoognadijaaDoorUiD
import Derived.Test.YtoabdoognadijaaDoorShelf
import Derived.Deep.RegionHeld3
namespace Go.Proofs.YtoabdoognadijaaDoor
open Go.RowKit

end Go.Proofs.YtoabdoognadijaaDoor
