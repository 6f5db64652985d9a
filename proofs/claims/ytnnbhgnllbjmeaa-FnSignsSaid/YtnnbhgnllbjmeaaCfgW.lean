/-
  What is drawn for the laws on texts of settings.
-/
import Derived.Test.YtnnbhgnllbjmeaaCfgB
import Derived.Test.YtnnbhgnllbjmeaaArgsB
namespace Go.Proofs.Ytnnbhgnllbjmeaa
open Go.RowKit

theorem Bytes.next {W W' : World} {v : Value} {n : Nat} (h : Bytes W v n) (hB : Below W.heap.size W W') : Bytes W' v n := by
  rcases h with h | h | ⟨b, off, c, rfl, hn, hc⟩
  · exact Or.inl h
  · exact Or.inr (Or.inl h)
  · refine Or.inr (Or.inr ⟨b, off, c, rfl, hn, fun j hj => ?_⟩)
    obtain ⟨hb, z, h0, h1, hz⟩ := hc j hj
    exact ⟨Nat.lt_of_lt_of_le hb hB.size, z, h0, h1, (hB.cell (p := ⟨b, off + j, none⟩) hb).trans hz⟩
theorem below_set8 {B b k : Nat} {a w : World} {x : Value} (h : Below B a w) (hb : B ≤ b) : Below B a (w.setCell ⟨b, k, none⟩ x) := h.setCell (p := ⟨b, k, none⟩) hb x
/-- What is drawn: settings whose signs can be read. -/
def DtOut (e : Ending) (w' : World) : Prop := ∃ C u, e = .returned (cfgV C u) ∧ IntRow w' u C.s ∧ C.s.length ≤ 6
end Go.Proofs.Ytnnbhgnllbjmeaa
