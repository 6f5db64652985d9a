/-
  What the rows' lists of package-level variables give, and the world in which the witnesses lie.
-/
import Derived.Test.YtklhkebpgoajgaaDoorBas
import Derived.Test.YtklhkebpgoajgaaDoorCards
import Derived.Test.YtklhkebpgoajgaaDoorTie
import Derived.Test.YtklhkebpgoajgaaDoorU
import Derived.OpenShut
import Derived.Deep.DeepHandedRow
import Derived.Lib.LaidTab
import Derived.Lib.ItoaNum
import Derived.Stop.LaidErr
import Derived.WalkSmall
import Derived.Lib.AtoiErrMem
namespace Go.Proofs.YtklhkebpgoajgaaDoor
open Go.ChangeShapes Go.WideShapes Go.ChangeAt Go.RowKit

theorem own : ownKnob Tryd.prog.godebug = none := by kernel_rfl

/-- The numbers of a listed table, as cells. -/
def flatCell : DataW Unit → List Value
  | .lit (.int k n) => [Value.int k n]
  | _ => []
def flatRow : DataW Unit → List Value
  | .agg l => l.flatMap flatCell
  | d => flatCell d
def tabCells : DataW Unit → Array Value
  | .agg l => (l.flatMap flatRow).toArray
  | _ => #[]
def sentText : DataW Unit → List UInt8
  | .iface _ (.ptr (.agg [.lit (.string l)])) => l
  | _ => []
/-- So many blocks has the settled world. -/
noncomputable def low : Nat := (World.holding Tryd.prog default ⟨#[], #[], []⟩).heap.size
def setCells (cs : Array Value) : Obj → Obj
  | .cells _ t f => .cells cs t f
  | o => o
end Go.Proofs.YtklhkebpgoajgaaDoor
