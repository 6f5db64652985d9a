/-
  What the reference answers for a field's text and for the text of rows.
-/
import Derived.Test.YtekdlkakcclejaaByR
import Derived.Test.YtekdlkakcclejaaCsvM
import Derived.Test.YtekdlkakcclejaaRowSS
import Derived.Deep.LoopGhost
namespace Go.Proofs.Ytekdlkakcclejaa
open Go.RowKit

theorem any_snoc (l : List UInt8) (c : UInt8) : (l ++ [c]).any spB = (l.any spB || spB c) := by simp
theorem dblL_one (c : UInt8) : dblL [c] = if c = 34 then [34, 34] else [c] := by
  rw [dblL]
  split <;> rfl
/-- A quoted field's text so far. -/
def quoS (l : List UInt8) : List UInt8 := 34 :: dblL l
theorem quoS_len (l : List UInt8) : (quoS l).length ≤ 2 * l.length + 1 := by
  have := dblL_len l
  simp only [quoS, List.length_cons]
  omega
theorem quoS_two (l : List UInt8) : quoS (l ++ [34]) = quoS l ++ [34] ++ [34] := by simp [quoS, dblL_append, dblL_one]
theorem quoS_one (l : List UInt8) {c : UInt8} (h : ¬ c = 34) : quoS (l ++ [c]) = quoS l ++ [c] := by simp [quoS, dblL_append, dblL_one, h]
theorem csvF_yes {l : List UInt8} (h : l.any spB = true) : csvF l = quoS l ++ [34] := by rw [csvF, if_pos h]; rfl
theorem ret_bytes {s : ByteArray} {l : List UInt8} (h : l = s.data.toList) : Ending.returned (.string s) = .returned (.string ⟨l.toArray⟩) := by rw [h, mk_toList]
theorem csvF_no {l : List UInt8} (h : l.any spB = false) : csvF l = l := by rw [csvF, if_neg (by simp [h])]

theorem rowT_take_succ {r : List (List UInt8)} {q : Nat} {p : List UInt8} (h : r[q]? = some p) : rowT (r.take (q + 1)) = if q = 0 then csvF p else rowT (r.take q) ++ 44 :: csvF p := by
  have hq := (List.getElem?_eq_some_iff.1 h).1
  rw [List.take_add_one, h]
  show rowT (r.take q ++ [p]) = _
  rw [rowT_snoc]
  by_cases h0 : q = 0
  · subst h0
    simp
  · rw [if_neg h0, if_neg (by
      intro e
      have := congrArg List.length e
      rw [List.length_take] at this
      have hz : ([] : List (List UInt8)).length = 0 := rfl
      omega)]
theorem rowT_take_le (r : List (List UInt8)) (q : Nat) : (rowT (r.take q)).length ≤ (rowT r).length := by
  by_cases hq : q < r.length
  · have h : r[q]? = some r[q] := List.getElem?_eq_getElem hq
    have ih := rowT_take_le r (q + 1)
    rw [rowT_take_succ h] at ih
    split at ih
    · rename_i h0
      subst h0
      simp [rowT]
    · simp only [List.length_append] at ih
      omega
  · rw [List.take_of_length_le (by omega)]
    exact Nat.le_refl _
termination_by r.length - q
theorem csvT_take_succ {L : List (List (List UInt8))} {j : Nat} {r : List (List UInt8)} (h : L[j]? = some r) : csvT (L.take (j + 1)) = csvT (L.take j) ++ rowT r ++ [10] := by
  rw [List.take_add_one, h]
  show csvT (L.take j ++ [r]) = _
  rw [csvT_snoc, List.append_assoc]
theorem csvT_take_le (L : List (List (List UInt8))) (j : Nat) : (csvT (L.take j)).length ≤ (csvT L).length := by
  have e : csvT L = csvT (L.take j) ++ csvT (L.drop j) := by rw [← csvT_append, List.take_append_drop]
  rw [e, List.length_append]
  omega
theorem csvT_part {L : List (List (List UInt8))} {j : Nat} {r : List (List UInt8)} (h : L[j]? = some r) (q : Nat) : (csvT (L.take j) ++ rowT (r.take q)).length + 1 ≤ (csvT L).length := by
  have h1 := csvT_take_le L (j + 1)
  rw [csvT_take_succ h] at h1
  have h2 := rowT_take_le r q
  simp only [List.length_append, List.length_cons, List.length_nil] at h1 ⊢
  omega
theorem toArr_size (p : List UInt8) : (⟨p.toArray⟩ : ByteArray).size = p.length := by simp [ByteArray.size]
theorem strRow_form {w : World} {u : Value} {r : List (List UInt8)} (h : StrRow w u r) : ∃ a c, u = .slice a r.length c ∧ r.length ≤ 9223372036854775807 ∧ (∀ (q : Nat) p, r[q]? = some p → ∃ b off, a = some ⟨b, off, none⟩ ∧ w.cell? ⟨b, off + q, none⟩ = some (.string ⟨p.toArray⟩)) := by
  rcases h with ⟨rfl, a, c, rfl⟩ | ⟨b, off, c, rfl, hl, _, hc⟩
  · exact ⟨a, c, rfl, by simp, by simp⟩
  · exact ⟨_, c, rfl, hl, fun q p hp => ⟨b, off, rfl, hc q p hp⟩⟩

end Go.Proofs.Ytekdlkakcclejaa
