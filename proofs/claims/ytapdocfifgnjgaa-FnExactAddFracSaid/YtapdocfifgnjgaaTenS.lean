
/-
  A wide number divided by ten: the reference's way.
-/
import Derived.Test.YtapdocfifgnjgaaWNum
import Derived.Test.YtapdocfifgnjgaaWideM
import Derived.Deep.RegionHeld3
namespace Go.Proofs.Ytapdocfifgnjgaa
open Go.RowKit

end Go.Proofs.Ytapdocfifgnjgaa
