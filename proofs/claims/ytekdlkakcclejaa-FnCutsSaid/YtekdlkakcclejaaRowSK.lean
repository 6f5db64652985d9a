/-
  The laws' own helpers on lists of lists of texts: their marks.
-/
import Derived.Test.YtekdlkakcclejaaRowSM
namespace Go.Proofs.Ytekdlkakcclejaa
open Go.RowKit

/-- The marks of rows of these lengths, from k on. -/
def marksL (k : Nat) : List Nat → List (List (List UInt8))
  | [] => []
  | n :: r => marks k n :: marksL (k + n) r
theorem marksL_len : ∀ (ns : List Nat) (k : Nat), (marksL k ns).length = ns.length
  | [], _ => rfl
  | n :: r, k => by rw [marksL, List.length_cons, List.length_cons, marksL_len r]
theorem marksL_at : ∀ (ns : List Nat) (k j n : Nat), ns[j]? = some n → (marksL k ns)[j]? = some (marks (k + (ns.take j).sum) n)
  | [], _, _, _, h => by simp at h
  | m :: r, k, 0, n, h => by
    obtain rfl : m = n := by simpa using h
    simp [marksL]
  | m :: r, k, j + 1, n, h => by
    have ih := marksL_at r (k + m) j n (by simpa using h)
    rw [marksL, List.getElem?_cons_succ, ih]
    congr 2
    simp only [List.take_succ_cons, List.sum_cons]
    omega
theorem marked_cells {w : World} {base : Nat} {T : TypeId} {v : Value} {n k : Nat} (h : Marked w base T v n k n) : w.ownsRow base T 1 v (strCells (marks k n)).length (strCells (marks k n)) := by
  obtain ⟨xs, ho, hx⟩ := h
  have e : xs = strCells (marks k n) := by
    refine List.ext_getElem? fun i => ?_
    by_cases hi : i < n
    · rw [hx i hi, strCells, List.getElem?_map, marks_at hi]; rfl
    · have hxl := ho.1
      rw [List.getElem?_eq_none (by omega), List.getElem?_eq_none (by rw [strCells_len, marks_len]; omega)]
  rw [strCells_len, marks_len, ← e]
  exact ho

theorem sum_take_succ {ns : List Nat} {j m : Nat} (h : ns[j]? = some m) : (ns.take (j + 1)).sum = (ns.take j).sum + m := by
  rw [List.take_add_one, h, List.sum_append]
  simp
theorem sum_take_le (ns : List Nat) (j : Nat) : (ns.take j).sum ≤ ns.sum := by
  have e : ns.sum = (ns.take j).sum + (ns.drop j).sum := by rw [← List.sum_append, List.take_append_drop]
  omega
theorem sum_mem {ns : List Nat} {m : Nat} (h : m ∈ ns) : m ≤ ns.sum := by
  induction ns with
  | nil => cases h
  | cons a t ih =>
    rw [List.sum_cons]
    rcases List.mem_cons.1 h with rfl | h
    · omega
    · have := ih h
      omega
theorem set_self {ns : List Nat} {j m : Nat} (h : ns[j]? = some m) : ns.set j m = ns := by
  refine List.ext_getElem? fun i => ?_
  by_cases e : j = i
  · subst e
    rw [List.getElem?_set_self (List.getElem?_eq_some_iff.1 h).1, h]
  · rw [List.getElem?_set_ne e]

end Go.Proofs.Ytekdlkakcclejaa
