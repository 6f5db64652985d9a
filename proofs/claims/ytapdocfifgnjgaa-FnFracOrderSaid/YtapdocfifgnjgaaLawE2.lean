
/-
  Chapter 2: the walks of the laws that compare the program's answers with the reference's.
-/
import Derived.Test.YtapdocfifgnjgaaOps2
namespace Go.Proofs.Ytapdocfifgnjgaa
open Go.RowKit

theorem bt2 {a b c : World} (h : Below a.heap.size a b) (k : Below b.heap.size b c) : Below a.heap.size a c := h.trans (k.mono h.size)

theorem pairAddInt (a b : Int) : ∃ (x : Int) (k : Bool), fit (a + b) = .returned (.tuple #[.int .i64 x, .bool k]) := by
  skip
  unfold fit
  split
  · exact ⟨_, _, rfl⟩
  · exact ⟨_, _, rfl⟩
theorem pairSubInt (a b : Int) : ∃ (x : Int) (k : Bool), fit (a - b) = .returned (.tuple #[.int .i64 x, .bool k]) := by
  skip
  unfold fit
  split
  · exact ⟨_, _, rfl⟩
  · exact ⟨_, _, rfl⟩
theorem pairMulInt (a b : Int) : ∃ (x : Int) (k : Bool), fit (a * b) = .returned (.tuple #[.int .i64 x, .bool k]) := by
  skip
  unfold fit
  split
  · exact ⟨_, _, rfl⟩
  · exact ⟨_, _, rfl⟩
theorem pairFloorDiv (a b : Int) : ∃ (x : Int) (k : Bool), floorE a b = .returned (.tuple #[.int .i64 x, .bool k]) := by
  unfold floorE; split; exact ⟨_, _, rfl⟩
  unfold fit
  split
  · exact ⟨_, _, rfl⟩
  · exact ⟨_, _, rfl⟩
end Go.Proofs.Ytapdocfifgnjgaa
