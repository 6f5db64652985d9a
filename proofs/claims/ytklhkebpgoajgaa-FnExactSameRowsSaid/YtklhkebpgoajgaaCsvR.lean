/-
  What the reference answers for a text of rows: the walk.
-/
import Derived.Test.YtklhkebpgoajgaaCsvI
import Derived.Deep.LoopGhost
import Derived.Deep.RegionHeld3
import Derived.Laws.ResultCell
namespace Go.Proofs.Ytklhkebpgoajgaa
open Go.RowKit

end Go.Proofs.Ytklhkebpgoajgaa
