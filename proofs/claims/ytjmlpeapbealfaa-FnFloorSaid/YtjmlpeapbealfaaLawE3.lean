
/-
  Chapter 3: the walks of the laws that compare the program's wide numbers with the reference's.
-/
import Derived.Test.YtjmlpeapbealfaaDraw3
import Derived.Test.YtjmlpeapbealfaaImpF
namespace Go.Proofs.Ytjmlpeapbealfaa
open Go.RowKit

theorem blk_lt {w : World} {b : Nat} {cs : Array Value} {T : TypeId} {f : Nat × Nat} (h : w.heap[b]? = some (.cells cs T f)) : b < w.heap.size := by
  rcases Nat.lt_or_ge b w.heap.size with hl | hl
  · exact hl
  · rw [Array.getElem?_eq_none hl] at h; cases h
theorem wideC_shape (z : Int) : ∃ (n : Bool) (h l : Int), wideC z = .agg #[.bool n, .int .u64 h, .int .u64 l] := ⟨_, _, _, rfl⟩
theorem scaleE_shape (n : Bool) (h l k : Int) : ∃ (r : Bool) (x y : Int) (b : Bool), scaleE n h l k = .returned (.tuple #[.agg #[.bool r, .int .u64 x, .int .u64 y], .bool b]) := by
  unfold scaleE
  split
  · exact fitW_shape _
  · exact ⟨_, _, _, _, rfl⟩
theorem intOfE_shape (n : Bool) (h l : Int) : ∃ (x : Int) (b : Bool), intOfE n h l = .returned (.tuple #[.int .i64 x, .bool b]) := by
  unfold intOfE
  split
  · exact ⟨_, _, rfl⟩
  · exact ⟨_, _, rfl⟩

end Go.Proofs.Ytjmlpeapbealfaa
