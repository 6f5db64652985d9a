/-
  The laws' own helpers on lists of lists of texts: their marks.
-/
import Derived.Test.YticeagjonfifbaaRowSM
namespace Go.Proofs.Yticeagjonfifbaa
open Go.RowKit

/-- The marks of rows of these lengths, from k on. -/
def marksL (k : Nat) : List Nat → List (List (List UInt8))
  | [] => []
  | n :: r => marks k n :: marksL (k + n) r
theorem marksL_len : ∀ (ns : List Nat) (k : Nat), (marksL k ns).length = ns.length
  | [], _ => rfl
  | n :: r, k => by rw [marksL, List.length_cons, List.length_cons, marksL_len r]
theorem marksL_at : ∀ (ns : List Nat) (k j n : Nat), ns[j]? = some n → (marksL k ns)[j]? = some (marks (k + (ns.take j).sum) n)
  | [], _, _, _, h => by simp at h
  | m :: r, k, 0, n, h => by
    obtain rfl : m = n := by simpa using h
    simp [marksL]
  | m :: r, k, j + 1, n, h => by
    have ih := marksL_at r (k + m) j n (by simpa using h)
    rw [marksL, List.getElem?_cons_succ, ih]
    congr 2
    simp only [List.take_succ_cons, List.sum_cons]
    omega
theorem marked_cells {w : World} {base : Nat} {T : TypeId} {v : Value} {n k : Nat} (h : Marked w base T v n k n) : w.ownsRow base T 1 v (strCells (marks k n)).length (strCells (marks k n)) := by
  obtain ⟨xs, ho, hx⟩ := h
  have e : xs = strCells (marks k n) := by
    refine List.ext_getElem? fun i => ?_
    by_cases hi : i < n
    · rw [hx i hi, strCells, List.getElem?_map, marks_at hi]; rfl
    · have hxl := ho.1
      rw [List.getElem?_eq_none (by omega), List.getElem?_eq_none (by rw [strCells_len, marks_len]; omega)]
  rw [strCells_len, marks_len, ← e]
  exact ho

theorem sum_take_succ {ns : List Nat} {j m : Nat} (h : ns[j]? = some m) : (ns.take (j + 1)).sum = (ns.take j).sum + m := by
  rw [List.take_add_one, h, List.sum_append]
  simp
theorem sum_take_le (ns : List Nat) (j : Nat) : (ns.take j).sum ≤ ns.sum := by
  have e : ns.sum = (ns.take j).sum + (ns.drop j).sum := by rw [← List.sum_append, List.take_append_drop]
  omega
theorem sum_mem {ns : List Nat} {m : Nat} (h : m ∈ ns) : m ≤ ns.sum := by
  induction ns with
  | nil => cases h
  | cons a t ih =>
    rw [List.sum_cons]
    rcases List.mem_cons.1 h with rfl | h
    · omega
    · have := ih h
      omega
theorem set_self {ns : List Nat} {j m : Nat} (h : ns[j]? = some m) : ns.set j m = ns := by
  refine List.ext_getElem? fun i => ?_
  by_cases e : j = i
  · subst e
    rw [List.getElem?_set_self (List.getElem?_eq_some_iff.1 h).1, h]
  · rw [List.getElem?_set_ne e]

/-- The rows before j are marked. -/
def MarkInv (w : World) (base : Nat) (v : Value) (n : Nat) (vs : List Value) (ns : List Nat) (k j : Nat) : Prop :=
  ∃ C : List (List Value), w.ownsRow base 24 1 v n vs ∧ RowsOwn w base 9 vs C ∧ C.map List.length = ns ∧ (∀ (i m : Nat), i < j → ns[i]? = some m → C[i]? = some (strCells (marks (k + (ns.take i).sum) m)))
theorem MarkInv.row {w : World} {base n k j : Nat} {v : Value} {vs : List Value} {ns : List Nat} (h : MarkInv w base v n vs ns k j) (hn : ns.length = n) (hj : j < n) : ∃ u m c, vs[j]? = some u ∧ ns[j]? = some m ∧ w.ownsRow base 9 1 u m c ∧ c.length = m := by
  obtain ⟨C, ho, hr, hC, _⟩ := h
  have hlen := congrArg List.length hC
  rw [List.length_map, hn] at hlen
  have hvl := hr.1
  have hCj : C[j]? = some C[j] := List.getElem?_eq_getElem (by omega)
  have hvj : vs[j]? = some vs[j] := List.getElem?_eq_getElem (by omega)
  refine ⟨vs[j], C[j].length, C[j], hvj, ?_, hr.2.1 j _ _ hvj hCj, rfl⟩
  rw [← hC, List.getElem?_map, hCj]
  rfl
theorem MarkInv.step {w w' : World} {base n k j m : Nat} {v u : Value} {vs : List Value} {ns : List Nat} (h : MarkInv w base v n vs ns k j) (hn : ns.length = n) (hj : j < n) (hu : vs[j]? = some u) (hm : ns[j]? = some m) (hg : w.grownBy w' u.ownBlock)
    (hM : Marked w' base 9 u m (k + (ns.take j).sum) m) : MarkInv w' base v n vs ns k (j + 1) := by
  obtain ⟨C, ho, hr, hC, hx⟩ := h
  have hlen := congrArg List.length hC
  rw [List.length_map, hn] at hlen
  have hvl := hr.1
  have hCj : C[j]? = some C[j] := List.getElem?_eq_getElem (by omega)
  have hT : 9 ≠ 24 := by decide
  refine ⟨C.set j (strCells (marks (k + (ns.take j).sum) m)), ho.kept hg ?_, hr.put hu hg (marked_cells hM), ?_, fun i q hi hq => ?_⟩
  · cases hb : v.ownBlock with
    | none => exact Or.inl rfl
    | some b => exact Or.inr (fun e => owns_apart (hr.2.1 j u _ hu hCj) ho hT b e.symm hb)
  · rw [List.map_set, hC, strCells_len, marks_len]
    exact set_self hm
  · by_cases e : j = i
    · subst e
      rw [hm] at hq
      obtain rfl := Option.some.inj hq
      rw [List.getElem?_set_self (by omega)]
    · rw [List.getElem?_set_ne e]
      exact hx i q (by omega) hq
theorem MarkInv.done {w : World} {base n k : Nat} {v : Value} {vs : List Value} {ns : List Nat} (h : MarkInv w base v n vs ns k n) (hn : ns.length = n) (hl : n ≤ 140737488355328) (hnl : ∀ m ∈ ns, m ≤ 140737488355328) : SSRow w v (marksL k ns) := by
  obtain ⟨C, ho, hr, hC, hx⟩ := h
  have hlen := marksL_len ns k
  refine ssRow_of (base := base) (vs := vs) (by rw [hlen, hn]; exact ho) (fun j u row hu hj => ?_) (by omega)
  have hjl := (List.getElem?_eq_some_iff.1 hj).1
  rw [hlen] at hjl
  have hm : ns[j]? = some ns[j] := List.getElem?_eq_getElem hjl
  rw [marksL_at ns k j _ hm] at hj
  obtain rfl := Option.some.inj hj
  have := hr.2.1 j u _ hu (hx j _ (by omega) hm)
  rw [strCells_len] at this
  refine strRow_of_owns this ?_
  rw [marks_len]
  have := hnl ns[j] (List.getElem_mem hjl)
  omega

end Go.Proofs.Yticeagjonfifbaa
