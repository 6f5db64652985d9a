/-
  The walk of the exact law on the text of settings; the program's contract is a hypothesis.
-/
import Derived.Test.YtnnbhgnllbjmeaaGreatDoorPk5
import Derived.Test.YtnnbhgnllbjmeaaGreatDoorCfgX
namespace Go.Proofs.YtnnbhgnllbjmeaaGreatDoor
open Go.RowKit

/-- What the program is to answer, in every world behind w. -/
def ImplText8 (w : World) : Prop := ∀ (wz : World), Below w.heap.size w wz → ∀ (C : Cfg) (u : Value), IntRow wz u C.s → C.s.length ≤ 16777216 → Calls Tryz.prog 7 #[.agg #[.int .i64 C.r, .int .i64 C.d, .int .i64 C.b, .int .i64 C.l, .int .i64 C.m, .int .i64 C.n, .int .i64 C.e, u]] wz fun e w' => e = .returned (.string ⟨(textC C).toArray⟩) ∧ Below wz.heap.size wz w'

end Go.Proofs.YtnnbhgnllbjmeaaGreatDoor
