/-
  Tables and their text: plain mathematics.
-/
import Derived.Test.YticeagjonfifbaaTabO
import Derived.Test.YticeagjonfifbaaFixD
import Derived.Test.YticeagjonfifbaaCsvM
namespace Go.Proofs.Yticeagjonfifbaa
open Go.RowKit

/-- A row of a table's text. -/
def rowTx (r : List Int) (y : Int) : List (List UInt8) := r.map fixT ++ [fixT y]
def rowsTx (T : Tab) (k : Nat) : List (List (List UInt8)) := (T.ns ++ [T.y]) :: (List.range k).map fun i => rowTx (T.rs.getD i []) (T.ys.getD i 0)
/-- The text of a table. -/
def tabT (T : Tab) : List UInt8 := if okT T = true then csvT (rowsTx T T.rs.length) else []
theorem rowsTx_succ (T : Tab) (k : Nat) : rowsTx T (k + 1) = rowsTx T k ++ [rowTx (T.rs.getD k []) (T.ys.getD k 0)] := by
  unfold rowsTx
  rw [List.range_succ, List.map_append, List.cons_append]
  rfl
theorem rowT_bound {b : Nat} : ∀ (r : List (List UInt8)), (∀ p ∈ r, p.length ≤ b) → (rowT r).length ≤ r.length * (2 * b + 3)
  | [], _ => by simp [rowT]
  | [f], h => by
    have h1 := csvF_len f
    have h2 := h f (by simp)
    simp only [rowT, List.length_cons, List.length_nil]
    omega
  | f :: g :: r, h => by
    have ih := rowT_bound (g :: r) (fun p hp => h p (by simp [hp]))
    have h1 := csvF_len f
    have h2 := h f (by simp)
    have e : (rowT (f :: g :: r)).length = (csvF f).length + (1 + (rowT (g :: r)).length) := by
      simp only [rowT, List.length_append, List.length_cons]
      omega
    have e2 : (f :: g :: r).length * (2 * b + 3) = (g :: r).length * (2 * b + 3) + (2 * b + 3) := by
      simp only [List.length_cons, Nat.add_mul, Nat.one_mul]
    rw [e, e2]
    omega
theorem csvT_bound {a b : Nat} : ∀ (L : List (List (List UInt8))), (∀ r ∈ L, r.length ≤ a ∧ ∀ p ∈ r, p.length ≤ b) → (csvT L).length ≤ L.length * (a * (2 * b + 3) + 1)
  | [], _ => by simp [csvT]
  | r :: L, h => by
    have ih := csvT_bound L (fun x hx => h x (by simp [hx]))
    have h1 := rowT_bound r (h r (by simp)).2
    have h2 : r.length * (2 * b + 3) ≤ a * (2 * b + 3) := Nat.mul_le_mul_right _ (h r (by simp)).1
    have e : (csvT (r :: L)).length = (rowT r).length + (1 + (csvT L).length) := by
      simp only [csvT, List.length_append, List.length_cons]
      omega
    have e2 : (r :: L).length * (a * (2 * b + 3) + 1) = L.length * (a * (2 * b + 3) + 1) + (a * (2 * b + 3) + 1) := by
      simp only [List.length_cons, Nat.add_mul, Nat.one_mul]
    rw [e, e2]
    omega
/-- What a right table keeps to. -/
theorem okT_head {T : Tab} (h : okT T = true) : (1 ≤ T.ns.length ∧ T.ns.length ≤ 4) ∧ nameB T.y = true ∧ (1 ≤ T.rs.length ∧ T.rs.length ≤ 40) ∧ T.ys.length = T.rs.length ∧ (∀ i, i < T.ns.length → nameB (T.ns.getD i []) = true ∧ hasB (T.ns.take i) (T.ns.getD i []) = false) ∧ hasB T.ns T.y = false ∧ (∀ i, i < T.rs.length → (T.rs.getD i []).length = T.ns.length ∧ valB (T.ys.getD i 0) = true ∧ (T.rs.getD i []).all valB = true) := by
  simp only [okT, headB, Bool.and_eq_true, inZ_iff, List.all_eq_true, List.mem_range, decide_eq_true_eq, Bool.not_eq_true'] at h
  obtain ⟨⟨⟨⟨⟨⟨h1, h2⟩, h3⟩, h4⟩, h5⟩, h6⟩, h7⟩ := h
  refine ⟨by omega, h2, by omega, h5, fun i hi => ?_, h3, fun i hi => ?_⟩
  · have k := h6 i hi
    simp only [nameAt, Bool.and_eq_true, Bool.not_eq_true'] at k
    exact k
  · have k := h7 i hi
    simp only [rowAt, Bool.and_eq_true, decide_eq_true_eq] at k
    exact ⟨k.1.1, k.1.2, k.2⟩
theorem nameB_len {l : List UInt8} (h : nameB l = true) : 1 ≤ l.length ∧ l.length ≤ 12 := by
  simp only [nameB, Bool.and_eq_true, inZ_iff] at h
  omega
theorem valB_iff {n : Int} : valB n = true ↔ -2147483647 ≤ n ∧ n ≤ 2147483647 := inZ_iff
theorem rowTx_len (r : List Int) (y : Int) : (rowTx r y).length = r.length + 1 := by simp [rowTx]
theorem rowTx_mem {r : List Int} {y : Int} : ∀ p ∈ rowTx r y, p.length ≤ 20 := by
  intro p hp
  rcases List.mem_append.1 hp with hp | hp
  · obtain ⟨z, _, rfl⟩ := List.mem_map.1 hp
    exact fixT_len z
  · obtain rfl := List.mem_singleton.1 hp
    exact fixT_len y
theorem names_mem {T : Tab} (h : okT T = true) : ∀ p ∈ T.ns ++ [T.y], p.length ≤ 12 := by
  have ho := okT_head h
  intro p hp
  rcases List.mem_append.1 hp with hp | hp
  · obtain ⟨j, hj⟩ := List.getElem?_of_mem hp
    have hjl := (List.getElem?_eq_some_iff.1 hj).1
    have k := (ho.2.2.2.2.1 j hjl).1
    rw [List.getD_eq_getElem?_getD, hj] at k
    exact (nameB_len k).2
  · obtain rfl := List.mem_singleton.1 hp
    exact (nameB_len ho.2.1).2
theorem rowsTx_all {T : Tab} (h : okT T = true) {k : Nat} (hk : k ≤ T.rs.length) : ∀ r ∈ rowsTx T k, r.length ≤ 5 ∧ ∀ p ∈ r, p.length ≤ 20 := by
  have ho := okT_head h
  intro r hr
  unfold rowsTx at hr
  rcases List.mem_cons.1 hr with rfl | hr
  · exact ⟨by simp; omega, fun p hp => by have := names_mem h p hp; omega⟩
  · obtain ⟨i, hi, rfl⟩ := List.mem_map.1 hr
    have hi' := List.mem_range.1 hi
    exact ⟨by rw [rowTx_len, (ho.2.2.2.2.2.2 i (by omega)).1]; omega, rowTx_mem⟩
theorem rowsTx_length (T : Tab) (k : Nat) : (rowsTx T k).length = k + 1 := by simp [rowsTx]
theorem tabT_len {T : Tab} (h : okT T = true) : (csvT (rowsTx T T.rs.length)).length ≤ 8856 := by
  have ho := okT_head h
  have hl := rowsTx_length T T.rs.length
  have hn4 : T.rs.length ≤ 40 := ho.2.2.1.2
  have hb := csvT_bound (a := 5) (b := 20) _ (rowsTx_all h (Nat.le_refl _))
  clear ho h
  generalize rowsTx T T.rs.length = L at hb hl ⊢
  generalize T.rs.length = n at hl hn4
  generalize (csvT L).length = m at hb ⊢
  rw [hl] at hb
  omega
end Go.Proofs.Yticeagjonfifbaa
