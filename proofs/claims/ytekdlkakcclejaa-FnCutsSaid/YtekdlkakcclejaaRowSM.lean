/-
  The laws' own helpers on lists of lists of texts: their size, their copy, their marks.
-/
import Derived.Test.YtekdlkakcclejaaRowSS
namespace Go.Proofs.Ytekdlkakcclejaa
open Go.RowKit

/-- What the size of a list of rows counts. -/
def szL (L : List (List (List UInt8))) : Nat := (L.map fun r => r.length + lensum r).sum
theorem szL_take_succ {L : List (List (List UInt8))} {k : Nat} {p : List (List UInt8)} (h : L[k]? = some p) : szL (L.take (k + 1)) = szL (L.take k) + (p.length + lensum p) := by
  unfold szL
  rw [List.take_add_one, h, List.map_append, List.sum_append]
  simp
theorem szL_take_le (L : List (List (List UInt8))) (k : Nat) : szL (L.take k) ≤ szL L := by
  have e : szL L = szL (L.take k) + szL (L.drop k) := by
    unfold szL
    rw [← List.sum_append, ← List.map_append, List.take_append_drop]
  omega
theorem szL_mem {L : List (List (List UInt8))} {r : List (List UInt8)} (h : r ∈ L) : r.length + lensum r ≤ szL L := by
  induction L with
  | nil => cases h
  | cons a t ih =>
    have e : szL (a :: t) = (a.length + lensum a) + szL t := by simp [szL]
    rcases List.mem_cons.1 h with rfl | h
    · omega
    · have := ih h
      omega

theorem owns_slice {w : World} {base s n : Nat} {T : TypeId} {v : Value} {xs : List Value} (h : w.ownsRow base T s v n xs) : ∃ a m c, v = .slice a m c := by
  rcases h.2 with ⟨rfl, _⟩ | ⟨g, cap, cur, rfl, _⟩
  · exact ⟨_, _, _, rfl⟩
  · exact ⟨_, _, _, rfl⟩

end Go.Proofs.Ytekdlkakcclejaa
