/-
  What an argument of bytes gives the walks; the law's own look at its size.
-/
import Derived.Test.YtklhkebpgoajgaaDrawW
import Derived.OpenShut
import Derived.Lib.ItoaMem
import Derived.Carry
import Derived.SizedLaws
namespace Go.Proofs.Ytklhkebpgoajgaa
open Go.ChangeShapes Go.WideShapes Go.ChangeAt Go.RowKit

theorem Bytes.mono {w w' : World} {v : Value} {n : Nat} (h : Bytes w v n) (hB : Below w.heap.size w w') : Bytes w' v n := by
  rcases h with ⟨c, rfl, rfl⟩ | ⟨a, c, rfl, rfl⟩ | ⟨b, off, c, rfl, hn, hcell⟩
  · exact Or.inl ⟨c, rfl, rfl⟩
  · exact Or.inr (Or.inl ⟨a, c, rfl, rfl⟩)
  · refine Or.inr (Or.inr ⟨b, off, c, rfl, hn, fun j hj => ?_⟩)
    obtain ⟨hb, z, z0, z1, hz⟩ := hcell j hj
    exact ⟨Nat.lt_of_lt_of_le hb hB.size, z, z0, z1, (hB.cell (p := ⟨b, off + j, none⟩) hb).trans hz⟩

theorem Bytes.shape {w : World} {v : Value} {n : Nat} (h : Bytes w v n) : ∃ a c, v = .slice a n c := by
  rcases h with ⟨c, rfl, rfl⟩ | ⟨a, c, rfl, rfl⟩ | ⟨b, off, c, rfl, _, _⟩
  · exact ⟨_, _, rfl⟩
  · exact ⟨_, _, rfl⟩
  · exact ⟨_, _, rfl⟩

theorem bt {a b c : World} (h : Below a.heap.size a b) (k : Below b.heap.size b c) : Below a.heap.size a c := h.trans (k.mono h.size)

theorem laidOut : laidOutB Try.prog = true := by kernel_rfl
theorem cellsU8 : Try.prog.cellsOf 5 = 1 := by kernel_rfl
theorem bytesU8 : Try.prog.bytesOf 5 = 1 := by kernel_rfl

end Go.Proofs.Ytklhkebpgoajgaa
