/-
  What the reference answers for one field of a text.
-/
import Derived.Test.YtekdlkakcclejaaByR
import Derived.Test.YtekdlkakcclejaaCsvM
namespace Go.Proofs.Ytekdlkakcclejaa
open Go.RowKit

theorem drop_at {s : ByteArray} {p : Nat} (h : p < s.size) : s.data.toList.drop p = s[p] :: s.data.toList.drop (p + 1) := by
  have hl : p < s.data.toList.length := by rw [← Lib.size_eq]; exact h
  have e : s.data.toList[p] = s[p] := by simp; rfl
  rw [List.drop_eq_getElem_cons hl, e]
theorem drop_none {s : ByteArray} {p : Nat} (h : s.size ≤ p) : s.data.toList.drop p = [] := List.drop_of_length_le (by rw [← Lib.size_eq]; exact h)

/-- What has been read of a field, and what is still to come. -/
def ReadI (g : List UInt8 → Option (List UInt8 × List UInt8)) (l : List UInt8) (acc : List UInt8) (R : Option (List UInt8 × List UInt8)) : Prop := (g l).map (fun x => (acc ++ x.1, x.2)) = R
theorem readI_start (g : List UInt8 → Option (List UInt8 × List UInt8)) (l : List UInt8) : ReadI g l [] (g l) := by
  unfold ReadI
  cases g l <;> rfl
theorem qI_none {s : ByteArray} {p : Nat} {acc : List UInt8} {R : Option (List UInt8 × List UInt8)} (hp : s.size ≤ p) (h : ReadI rdQ (s.data.toList.drop p) acc R) : R = none := by
  rw [drop_none hp] at h
  exact h.symm
theorem qI_plain {s : ByteArray} {p : Nat} {acc : List UInt8} {R : Option (List UInt8 × List UInt8)} (hp : p < s.size) (hc : ¬ s[p] = 34) (h : ReadI rdQ (s.data.toList.drop p) acc R) : ReadI rdQ (s.data.toList.drop (p + 1)) (acc ++ [s[p]]) R := by
  unfold ReadI at h ⊢
  rw [drop_at hp, rdQ_plain hc] at h
  rw [← h, Option.map_map]
  congr 1
  funext x
  simp
theorem qI_two {s : ByteArray} {p : Nat} {acc : List UInt8} {R : Option (List UInt8 × List UInt8)} (hp : p + 1 < s.size) (hc : s[p] = 34) (hd : s[p + 1] = 34) (h : ReadI rdQ (s.data.toList.drop p) acc R) : ReadI rdQ (s.data.toList.drop (p + 2)) (acc ++ [34]) R := by
  unfold ReadI at h ⊢
  rw [drop_at (by omega : p < s.size), drop_at hp, hc, hd, rdQ_two] at h
  rw [← h, Option.map_map]
  congr 1
  funext x
  simp
theorem qI_end {s : ByteArray} {p : Nat} {acc : List UInt8} {R : Option (List UInt8 × List UInt8)} (hp : p < s.size) (hc : s[p] = 34) (hd : ∀ h : p + 1 < s.size, ¬ s[p + 1] = 34) (h : ReadI rdQ (s.data.toList.drop p) acc R) : R = some (acc, s.data.toList.drop (p + 1)) := by
  unfold ReadI at h
  rw [drop_at hp, hc, rdQ_end] at h
  · rw [← h]; simp
  · by_cases h1 : p + 1 < s.size
    · rw [drop_at h1]
      intro e
      exact hd h1 (by simpa using e)
    · rw [drop_none (by omega)]
      simp
theorem uI_end {s : ByteArray} {p : Nat} {acc : List UInt8} {R : Option (List UInt8 × List UInt8)} (hp : s.size ≤ p) (h : ReadI rdU (s.data.toList.drop p) acc R) : R = some (acc, s.data.toList.drop p) := by
  unfold ReadI at h
  rw [drop_none hp] at h ⊢
  rw [← h]
  simp [rdU]
theorem uI_stop {s : ByteArray} {p : Nat} {acc : List UInt8} {R : Option (List UInt8 × List UInt8)} (hp : p < s.size) (hc : s[p] = 44 ∨ s[p] = 10 ∨ s[p] = 13) (h : ReadI rdU (s.data.toList.drop p) acc R) : R = some (acc, s.data.toList.drop p) := by
  unfold ReadI at h
  rw [drop_at hp, rdU, if_pos hc, ← drop_at hp] at h
  rw [← h]
  simp
theorem uI_bad {s : ByteArray} {p : Nat} {acc : List UInt8} {R : Option (List UInt8 × List UInt8)} (hp : p < s.size) (hc : s[p] = 34) (h : ReadI rdU (s.data.toList.drop p) acc R) : R = none := by
  unfold ReadI at h
  rw [drop_at hp, rdU, if_neg (by rw [hc]; decide), if_pos hc] at h
  exact h.symm
theorem uI_step {s : ByteArray} {p : Nat} {acc : List UInt8} {R : Option (List UInt8 × List UInt8)} (hp : p < s.size) (hc : ¬ (s[p] = 44 ∨ s[p] = 10 ∨ s[p] = 13)) (h34 : ¬ s[p] = 34) (h : ReadI rdU (s.data.toList.drop p) acc R) : ReadI rdU (s.data.toList.drop (p + 1)) (acc ++ [s[p]]) R := by
  unfold ReadI at h ⊢
  rw [drop_at hp, rdU, if_neg hc, if_neg h34] at h
  rw [← h, Option.map_map]
  congr 1
  funext x
  simp

/-- What reading a field ends in: the field, and the place behind it; or no field. -/
def FieldPost (l : List UInt8) (R : Option (List UInt8 × List UInt8)) (e : Ending) : Prop :=
  (∃ (f : List UInt8) (p : Nat), R = some (f, l.drop p) ∧ p ≤ l.length ∧ e = .returned (.tuple #[.string ⟨f.toArray⟩, .int .i64 p, .bool true])) ∨
  (R = none ∧ ∃ k : Int, e = .returned (.tuple #[.string ⟨#[]⟩, .int .i64 k, .bool false]))
theorem fieldPost_yes {s : ByteArray} {R : Option (List UInt8 × List UInt8)} {f : List UInt8} {p : Nat} {z : Int} (hz : z = p) (hp : p ≤ s.size) (h : R = some (f, s.data.toList.drop p)) : FieldPost s.data.toList R (.returned (.tuple #[.string ⟨f.toArray⟩, .int .i64 z, .bool true])) := by
  subst hz
  exact Or.inl ⟨f, p, h, by rw [← Lib.size_eq]; exact hp, rfl⟩
theorem fieldPost_no {l : List UInt8} {R : Option (List UInt8 × List UInt8)} {z : Int} (h : R = none) : FieldPost l R (.returned (.tuple #[.string ⟨#[]⟩, .int .i64 z, .bool false])) := Or.inr ⟨h, z, rfl⟩

end Go.Proofs.Ytekdlkakcclejaa
