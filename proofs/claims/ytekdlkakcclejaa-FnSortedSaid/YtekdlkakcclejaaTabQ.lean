/-
  What the reference answers for two tables: whether they are the same.
-/
import Derived.Test.YtekdlkakcclejaaTabS
import Derived.Test.YtekdlkakcclejaaNameS
import Derived.Test.YtekdlkakcclejaaCsvQ
import Derived.Deep.LoopGhost
namespace Go.Proofs.Ytekdlkakcclejaa
open Go.RowKit

/-- Whether two lists of numbers are equal. -/
def sameI9 (a b : List Int) : Bool := decide (a = b)
theorem sameI9_yes {a b : List Int} (h : a = b) : sameI9 a b = true := decide_eq_true h
theorem sameI9_no {a b : List Int} (h : ¬ a = b) : sameI9 a b = false := decide_eq_false h
theorem take_both9 {a b : List Int} {j : Nat} {x y : Int} (ha : a[j]? = some x) (hb : b[j]? = some y) (h : a.take j = b.take j) (e : x = y) : a.take (j + 1) = b.take (j + 1) := by
  rw [List.take_add_one, List.take_add_one, ha, hb, h, e]
theorem at_ne9 {a b : List Int} {j : Nat} {x y : Int} (ha : a[j]? = some x) (hb : b[j]? = some y) (e : ¬ x = y) : ¬ a = b := by
  intro h
  rw [h, hb] at ha
  exact e (Option.some.inj ha).symm

theorem iiRow_cells {w : World} {v : Value} {L : List (List Int)} (h : IIRow w v L) : ∃ a c, v = .slice a L.length c ∧ L.length ≤ 9223372036854775807 ∧ (∀ (q : Nat) r, L[q]? = some r → ∃ b off u, a = some ⟨b, off, none⟩ ∧ w.cell? ⟨b, off + q, none⟩ = some u ∧ IntRow w u r) := by
  rcases h with ⟨rfl, a, c, rfl⟩ | ⟨b, off, c, rfl, hl, _, hc⟩
  · exact ⟨a, c, rfl, by simp, by simp⟩
  · exact ⟨_, c, rfl, hl, fun q p hp => by
      obtain ⟨u, hu, hr⟩ := hc q p hp
      exact ⟨b, off, u, rfl, hu, hr⟩⟩
/-- Whether two lists of lists of numbers are equal. -/
def sameG9 (a b : List (List Int)) : Bool := decide (a = b)
theorem sameG9_yes {a b : List (List Int)} (h : a = b) : sameG9 a b = true := decide_eq_true h
theorem sameG9_no {a b : List (List Int)} (h : ¬ a = b) : sameG9 a b = false := decide_eq_false h
theorem take_bothG {a b : List (List Int)} {j : Nat} {x y : List Int} (ha : a[j]? = some x) (hb : b[j]? = some y) (h : a.take j = b.take j) (e : x = y) : a.take (j + 1) = b.take (j + 1) := by
  rw [List.take_add_one, List.take_add_one, ha, hb, h, e]
theorem at_neG {a b : List (List Int)} {j : Nat} {x y : List Int} (ha : a[j]? = some x) (hb : b[j]? = some y) (e : ¬ x = y) : ¬ a = b := by
  intro h
  rw [h, hb] at ha
  exact e (Option.some.inj ha).symm

end Go.Proofs.Ytekdlkakcclejaa
