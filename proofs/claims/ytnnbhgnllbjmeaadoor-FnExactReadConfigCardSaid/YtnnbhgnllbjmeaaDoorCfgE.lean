/-
  Settings as a value and as cells.
-/
import Derived.Test.YtnnbhgnllbjmeaaDoorCfgM
import Derived.Test.YtnnbhgnllbjmeaaDoorCfgS
namespace Go.Proofs.YtnnbhgnllbjmeaaDoor
open Go.RowKit

/-- Settings as cells. -/
def cfgA (C : Cfg) (v : Value) : Array Value := #[.int .i64 C.r, .int .i64 C.d, .int .i64 C.b, .int .i64 C.l, .int .i64 C.m, .int .i64 C.n, .int .i64 C.e, v]
theorem owns_ne_blk {w : World} {base n cb : Nat} {T T' : TypeId} {v : Value} {xs : List Value} {cs : Array Value} (h : w.ownsRow base T 1 v n xs) (hb : w.heap[cb]? = some (.cells cs T' (0, 0))) (hT : T ≠ T') : v.ownBlock ≠ some cb := by
  intro hg
  rcases h.2 with ⟨rfl, _⟩ | ⟨g1, c1, cur1, rfl, _, hc1, _⟩
  · cases hg
  · simp only [Value.ownBlock, Option.some.injEq] at hg
    subst hg
    rw [hb] at hc1
    injection hc1 with hc1
    injection hc1 with _ hc1
    exact hT hc1.symm
/-- Settings as a value. -/
def cfgV (C : Cfg) (v : Value) : Value := .agg #[.int .i64 C.r, .int .i64 C.d, .int .i64 C.b, .int .i64 C.l, .int .i64 C.m, .int .i64 C.n, .int .i64 C.e, v]
theorem intCells_snoc (s : List Int) (z : Int) : intCells (s ++ [z]) = intCells s ++ [.int .i64 z] := by unfold intCells; simp
theorem int_row {w : World} {base : Nat} {v : Value} {s : List Int} {z : Int} (h : w.ownsRow base 3 1 v (s.length + 1) (intCells s ++ [.int .i64 z])) : w.ownsRow base 3 1 v (s ++ [z]).length (intCells (s ++ [z])) := by
  rw [intCells_snoc, List.length_append]
  exact h
end Go.Proofs.YtnnbhgnllbjmeaaDoor
