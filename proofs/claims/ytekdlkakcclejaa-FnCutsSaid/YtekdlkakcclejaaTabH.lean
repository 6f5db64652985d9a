/-
  Whether a text stands in a list of texts, by the reference.
-/
import Derived.Test.YtekdlkakcclejaaTabQ
namespace Go.Proofs.Ytekdlkakcclejaa
open Go.RowKit

/-- Whether p stands in L. -/
def hasB (L : List (List UInt8)) (p : List UInt8) : Bool := decide (p ∈ L)
theorem hasB_yes {L : List (List UInt8)} {p : List UInt8} {j : Nat} (h : L[j]? = some p) : hasB L p = true := decide_eq_true (List.mem_of_getElem? h)
theorem hasB_no {L : List (List UInt8)} {p : List UInt8} (h : ¬ p ∈ L) : hasB L p = false := decide_eq_false h
theorem notmem_succ {L : List (List UInt8)} {p x : List UInt8} {j : Nat} (hx : L[j]? = some x) (h : ¬ p ∈ L.take j) (hn : ¬ x = p) : ¬ p ∈ L.take (j + 1) := by
  rw [List.take_add_one, hx]
  intro hm
  rcases List.mem_append.1 hm with hm | hm
  · exact h hm
  · have : p = x := by simpa using hm
    exact hn this.symm
theorem sRow_cells {w : World} {v : Value} {L : List (List UInt8)} (h : StrRow w v L) : ∃ a c, v = .slice a L.length c ∧ L.length ≤ 9223372036854775807 ∧ (∀ (q : Nat) r, L[q]? = some r → ∃ b off, a = some ⟨b, off, none⟩ ∧ w.cell? ⟨b, off + q, none⟩ = some (.string ⟨r.toArray⟩)) := by
  rcases h with ⟨rfl, a, c, rfl⟩ | ⟨b, off, c, rfl, hl, _, hc⟩
  · exact ⟨a, c, rfl, by simp, by simp⟩
  · exact ⟨_, c, rfl, hl, fun q p hp => ⟨b, off, rfl, hc q p hp⟩⟩

end Go.Proofs.Ytekdlkakcclejaa
