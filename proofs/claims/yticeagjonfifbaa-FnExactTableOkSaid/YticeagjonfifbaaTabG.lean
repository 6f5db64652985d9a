/-
  What is wrong with the names: plain mathematics.
-/
import Derived.Test.YticeagjonfifbaaTabO
namespace Go.Proofs.Yticeagjonfifbaa
open Go.RowKit

/-- Whether the name at a place is right, and new. -/
def nmB (L : List (List UInt8)) (i : Nat) : Bool := nameB (L.getD i []) && !hasB (L.take i) (L.getD i [])
/-- What is wrong with the names from place i on: the code and the column. -/
def headG (L : List (List UInt8)) : Nat → Nat → Nat × Nat
  | 0, _ => (0, 0)
  | n + 1, i => if nameB (L.getD i []) = false then (5, i) else if hasB (L.take i) (L.getD i []) = true then (6, i) else headG L n (i + 1)
def headF (L : List (List UInt8)) : Nat × Nat := if inZ (L.length : Int) 2 5 = true then headG L L.length 0 else (7, 0)
theorem nmB_iff {L : List (List UInt8)} {i : Nat} : nmB L i = true ↔ nameB (L.getD i []) = true ∧ hasB (L.take i) (L.getD i []) = false := by
  simp [nmB]
theorem headG_ok {L : List (List UInt8)} : ∀ (n i : Nat), (∀ j, i ≤ j → j < i + n → nmB L j = true) → headG L n i = (0, 0)
  | 0, _, _ => rfl
  | n + 1, i, h => by
    have h1 := nmB_iff.1 (h i (Nat.le_refl _) (by omega))
    rw [headG, if_neg (by rw [h1.1]; decide), if_neg (by rw [h1.2]; decide)]
    exact headG_ok n (i + 1) (fun j h1 h2 => h j (by omega) (by omega))
theorem headG_all {L : List (List UInt8)} : ∀ (n i : Nat), (headG L n i).1 = 0 → ∀ j, i ≤ j → j < i + n → nmB L j = true
  | 0, i, _, j, h1, h2 => by omega
  | n + 1, i, h, j, h1, h2 => by
    rw [headG] at h
    by_cases ha : nameB (L.getD i []) = false
    · rw [if_pos ha] at h
      simp at h
    · rw [if_neg ha] at h
      by_cases hb : hasB (L.take i) (L.getD i []) = true
      · rw [if_pos hb] at h
        simp at h
      · rw [if_neg hb] at h
        by_cases e : j = i
        · subst e
          exact nmB_iff.2 ⟨by simpa using ha, by simpa using hb⟩
        · exact headG_all n (i + 1) h j (by omega) (by omega)
theorem headF_ok {L : List (List UInt8)} (h : (headF L).1 = 0) : 2 ≤ L.length ∧ L.length ≤ 5 ∧ ∀ j, j < L.length → nmB L j = true := by
  unfold headF at h
  by_cases hi : inZ (L.length : Int) 2 5 = true
  · rw [if_pos hi] at h
    have k := inZ_iff.1 hi
    exact ⟨by omega, by omega, fun j hj => headG_all _ 0 h j (by omega) (by omega)⟩
  · rw [if_neg hi] at h
    simp at h
theorem headG_bad1 {L : List (List UInt8)} {n j : Nat} {p : List UInt8} (hj : j < n) (hp : L[j]? = some p) (h : nameB p = false) : headG L (n - j) j = (5, j) := by
  obtain ⟨m, hm⟩ : ∃ m, n - j = m + 1 := ⟨n - j - 1, by omega⟩
  rw [hm, headG, getD_at hp, if_pos h]
theorem headG_bad2 {L : List (List UInt8)} {n j : Nat} {p : List UInt8} (hj : j < n) (hp : L[j]? = some p) (h : nameB p = true) (h2 : hasB (L.take j) p = true) : headG L (n - j) j = (6, j) := by
  obtain ⟨m, hm⟩ : ∃ m, n - j = m + 1 := ⟨n - j - 1, by omega⟩
  rw [hm, headG, getD_at hp, if_neg (by rw [h]; decide), if_pos h2]
theorem headG_next {L : List (List UInt8)} {n j : Nat} {p : List UInt8} (hj : j < n) (hp : L[j]? = some p) (h : nameB p = true) (h2 : hasB (L.take j) p = false) : headG L (n - j) j = headG L (n - (j + 1)) (j + 1) := by
  obtain ⟨m, hm⟩ : ∃ m, n - j = m + 1 := ⟨n - j - 1, by omega⟩
  have e : n - (j + 1) = m := by omega
  rw [hm, e, headG, getD_at hp, if_neg (by rw [h]; decide), if_neg (by rw [h2]; decide)]
end Go.Proofs.Yticeagjonfifbaa
