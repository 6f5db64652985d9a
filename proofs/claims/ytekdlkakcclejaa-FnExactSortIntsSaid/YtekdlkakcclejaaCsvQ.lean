/-
  What the reference answers for two lists of rows: whether they are equal.
-/
import Derived.Test.YtekdlkakcclejaaRowSS
import Derived.Test.YtekdlkakcclejaaCsvS
import Derived.Deep.LoopGhost
namespace Go.Proofs.Ytekdlkakcclejaa
open Go.RowKit

/-- Whether two lists of rows are equal. -/
def sameB (a b : List (List (List UInt8))) : Bool := decide (a = b)
theorem sameB_yes {a b : List (List (List UInt8))} (h : a = b) : sameB a b = true := decide_eq_true h
theorem sameB_no {a b : List (List (List UInt8))} (h : ¬ a = b) : sameB a b = false := decide_eq_false h
theorem ret_bool {a b : Bool} (h : b = a) : Ending.returned (.bool a) = .returned (.bool b) := by rw [h]
theorem take_both {α : Type} {a b : List α} {j : Nat} {x y : α} (ha : a[j]? = some x) (hb : b[j]? = some y) (h : a.take j = b.take j) (e : x = y) : a.take (j + 1) = b.take (j + 1) := by
  rw [List.take_add_one, List.take_add_one, ha, hb, h, e]
theorem at_ne {α : Type} {a b : List α} {j : Nat} {x y : α} (ha : a[j]? = some x) (hb : b[j]? = some y) (e : ¬ x = y) : ¬ a = b := by
  intro h
  rw [h, hb] at ha
  exact e (Option.some.inj ha).symm
theorem str_ne {a b : List UInt8} (h : ¬ a = b) : ¬ a.toArray = b.toArray := by
  intro e
  exact h (by simpa using congrArg Array.toList e)

theorem ssRow_form {w : World} {v : Value} {L : List (List (List UInt8))} (h : SSRow w v L) : ∃ a c, v = .slice a L.length c ∧ L.length ≤ 9223372036854775807 ∧ (∀ (j : Nat) row, L[j]? = some row → ∃ b off u, a = some ⟨b, off, none⟩ ∧ w.cell? ⟨b, off + j, none⟩ = some u ∧ StrRow w u row) := by
  rcases h with ⟨rfl, a, c, rfl⟩ | ⟨b, off, c, rfl, hl, _, hc⟩
  · exact ⟨a, c, rfl, by simp, by simp⟩
  · refine ⟨_, c, rfl, hl, fun j row hj => ?_⟩
    obtain ⟨u, h1, h2⟩ := hc j row hj
    exact ⟨b, off, u, rfl, h1, h2⟩
end Go.Proofs.Ytekdlkakcclejaa
