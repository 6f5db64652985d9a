
/-
  Boxes of four cells.
-/
import Derived.Test.YtapdocfifgnjgaaFracF
namespace Go.Proofs.Ytapdocfifgnjgaa
open Go.RowKit

theorem st4_farF {w : World} {X Y k : Nat} (b0 b1 b2 b3 : Value) (h : X ≠ Y) :
    ((((w.setCell ⟨X, 0, none⟩ b0).setCell ⟨X, 1, none⟩ b1).setCell ⟨X, 2, none⟩ b2).setCell ⟨X, 3, none⟩ b3).cell? ⟨Y, k, none⟩ = w.cell? ⟨Y, k, none⟩ := by
  simp [World.cell?, World.setCell, Array.getElem?_modify, h]
theorem st4_blkF {w : World} {X : Nat} {a0 a1 a2 a3 b0 b1 b2 b3 : Value} {T : TypeId} (h : w.heap[X]? = some (.cells #[a0, a1, a2, a3] T (0, 0))) :
    ((((w.setCell ⟨X, 0, none⟩ b0).setCell ⟨X, 1, none⟩ b1).setCell ⟨X, 2, none⟩ b2).setCell ⟨X, 3, none⟩ b3).heap[X]? = some (.cells #[b0, b1, b2, b3] T (0, 0)) := by
  have h1 := Lib.heap_setCell_same (i := 0) h b0
  have h2 := Lib.heap_setCell_same (i := 1) h1 b1
  have h3 := Lib.heap_setCell_same (i := 2) h2 b2
  have h4 := Lib.heap_setCell_same (i := 3) h3 b3
  rw [h4]
  rfl
theorem st4_blk_farF {w : World} {X Y : Nat} (b0 b1 b2 b3 : Value) (h : X ≠ Y) :
    ((((w.setCell ⟨X, 0, none⟩ b0).setCell ⟨X, 1, none⟩ b1).setCell ⟨X, 2, none⟩ b2).setCell ⟨X, 3, none⟩ b3).heap[Y]? = w.heap[Y]? := by
  simp [World.setCell, Array.getElem?_modify, h]
theorem st4_belowF {W w : World} {X : Nat} (h : Below W.heap.size W w) (hX : W.heap.size ≤ X) (b0 b1 b2 b3 : Value) :
    Below W.heap.size W ((((w.setCell ⟨X, 0, none⟩ b0).setCell ⟨X, 1, none⟩ b1).setCell ⟨X, 2, none⟩ b2).setCell ⟨X, 3, none⟩ b3) :=
  (((h.setCell hX _).setCell hX _).setCell hX _).setCell hX _
end Go.Proofs.Ytapdocfifgnjgaa
