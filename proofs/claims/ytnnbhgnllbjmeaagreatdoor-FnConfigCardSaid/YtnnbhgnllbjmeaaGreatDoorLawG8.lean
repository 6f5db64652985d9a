/-
  The walks of the exact laws on settings; the program's contracts are hypotheses.
-/
import Derived.Test.YtnnbhgnllbjmeaaGreatDoorPk5
namespace Go.Proofs.YtnnbhgnllbjmeaaGreatDoor
open Go.RowKit

/-- What the program is to answer for settings. -/
def ImplUsual : Prop := ∀ (w : World), Calls Tryz.prog 32 #[] w fun e w' => (∃ v, e = .returned (.agg #[.int .i64 4, .int .i64 2, .int .i64 4, .int .i64 1, .int .i64 1, .int .i64 1, .int .i64 1, v]) ∧ w'.ownsRow w.heap.size 3 1 v 0 []) ∧ Below w.heap.size w w'
def ImplOk : Prop := ∀ (C : Cfg) (u : Value) (w : World), IntRow w u C.s → C.s.length ≤ 16777216 → Calls Tryz.prog 9 #[.agg #[.int .i64 C.r, .int .i64 C.d, .int .i64 C.b, .int .i64 C.l, .int .i64 C.m, .int .i64 C.n, .int .i64 C.e, u]] w fun e w' => e = .returned (.bool (okC C)) ∧ Below w.heap.size w w'
def ImplSameC : Prop := ∀ (A B : Cfg) (u v : Value) (w : World), IntRow w u A.s → IntRow w v B.s → A.s.length ≤ 16777216 → B.s.length ≤ 16777216 → Calls Tryz.prog 14 #[.agg #[.int .i64 A.r, .int .i64 A.d, .int .i64 A.b, .int .i64 A.l, .int .i64 A.m, .int .i64 A.n, .int .i64 A.e, u], .agg #[.int .i64 B.r, .int .i64 B.d, .int .i64 B.b, .int .i64 B.l, .int .i64 B.m, .int .i64 B.n, .int .i64 B.e, v]] w fun e w' => e = .returned (.bool (sameC A B)) ∧ Below w.heap.size w w'

end Go.Proofs.YtnnbhgnllbjmeaaGreatDoor
