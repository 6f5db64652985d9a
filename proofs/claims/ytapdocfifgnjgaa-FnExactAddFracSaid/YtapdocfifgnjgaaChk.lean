
/-
  Chapter 2: what the checked operations answer, the program's and the reference's.
-/
import Derived.Test.YtapdocfifgnjgaaChkM
namespace Go.Proofs.Ytapdocfifgnjgaa
open Go.RowKit

end Go.Proofs.Ytapdocfifgnjgaa
