/-
  The walks of the exact laws on CSV; the program's contracts are hypotheses.
-/
import Derived.Test.YtklhkebpgoajgaaBas
import Derived.Test.YtklhkebpgoajgaaRowSK
import Derived.Test.YtklhkebpgoajgaaCsvS
import Derived.Test.YtklhkebpgoajgaaCsvR
import Derived.Test.YtklhkebpgoajgaaCsvQ
namespace Go.Proofs.Ytklhkebpgoajgaa
open Go.RowKit

def ImplSame : Prop := ∀ (w : World) (v1 v2 : Value) (L1 L2 : List (List (List UInt8))), SSRow w v1 L1 → SSRow w v2 L2 → L1.length ≤ 16777216 → L2.length ≤ 16777216 → Calls Try.prog 7 #[v1, v2] w fun e w' => e = .returned (.bool (sameB L1 L2)) ∧ Below w.heap.size w w'

theorem csvT_sz (L : List (List (List UInt8))) : (csvT L).length ≤ 3 * szL L + L.length := by
  induction L with
  | nil => simp [csvT, szL]
  | cons r t ih =>
    have h1 := rowT_w r
    have h2 : fieldsW r = 2 * lensum r + 3 * r.length := by
      clear h1 ih
      induction r with
      | nil => rfl
      | cons f u ihu =>
        have e : lensum (f :: u) = f.length + lensum u := by simp [lensum]
        rw [fieldsW, ihu, e, List.length_cons]
        omega
    have e : szL (r :: t) = (r.length + lensum r) + szL t := by simp [szL]
    rw [csvT, e]
    simp only [List.length_append, List.length_cons]
    omega
theorem lensum_mem {r : List (List UInt8)} {p : List UInt8} (h : p ∈ r) : p.length ≤ lensum r := by
  induction r with
  | nil => cases h
  | cons a t ih =>
    have e : lensum (a :: t) = a.length + lensum t := by simp [lensum]
    rcases List.mem_cons.1 h with rfl | h
    · omega
    · have := ih h
      omega
theorem sum_csvT (L : List (List (List UInt8))) : (L.map List.length).sum ≤ (csvT L).length := by
  induction L with
  | nil => simp [csvT]
  | cons r t ih =>
    have h := rowT_len r
    rw [csvT, List.map_cons, List.sum_cons]
    simp only [List.length_append, List.length_cons]
    omega
theorem csvQ_bound {l : List UInt8} {rows : List (List (List UInt8))} {c a b : Nat} (h : csvQ l = (rows, c, a, b)) : rows.length ≤ 4000 ∧ (csvT rows).length ≤ 36000 ∧ (rows.map List.length).sum ≤ 36000 ∧ (∀ r ∈ rows, r ≠ []) := by
  rw [csvQ] at h
  split at h
  · simp only [Prod.mk.injEq] at h
    obtain ⟨rfl, _⟩ := h
    simp [csvT]
  · rename_i hl
    cases hr : rdCsv l with
    | inl rs =>
      rw [hr] at h
      simp only [Prod.mk.injEq] at h
      obtain ⟨rfl, _⟩ := h
      have hw := rdAll_w _ l [] rs (by omega) hr (by simp)
      have hs := sum_csvT rs
      simp only [csvT, List.length_nil] at hw
      exact ⟨by omega, by omega, by omega, hw.1⟩
    | inr x =>
      obtain ⟨x, y⟩ := x
      rw [hr] at h
      simp only [Prod.mk.injEq] at h
      obtain ⟨rfl, _⟩ := h
      simp [csvT]
/-- What reading ends in, at given answers. -/
def CsvAt (rows : List (List (List UInt8))) (c a b : Nat) (w : World) (e : Ending) (w' : World) : Prop :=
  ∃ v, e = .returned (.tuple #[v, .agg #[.int .i64 c, .int .i64 a, .int .i64 b]]) ∧ SSOwn w' w.heap.size v rows
theorem csvPost_at {w w' : World} {l : List UInt8} {e : Ending} {rows : List (List (List UInt8))} {c a b : Nat} (h : csvQ l = (rows, c, a, b)) (hp : CsvPost w l e w') : CsvAt rows c a b w e w' := by
  obtain ⟨v, he, ho⟩ := hp
  rw [h] at he ho
  exact ⟨v, he, ho⟩

theorem rows_small {rows : List (List (List UInt8))} (h : (rows.map List.length).sum ≤ 36000) : ∀ r ∈ rows, r.length ≤ 9223372036854775807 := fun r hr => by
  have := sum_mem (List.mem_map_of_mem (f := List.length) hr)
  omega
end Go.Proofs.Ytklhkebpgoajgaa
