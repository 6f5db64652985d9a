/-
  The laws' own helpers on lists of texts: equal, their size, their copy, their marks.
-/
import Derived.Test.YtekdlkakcclejaaBas
import Derived.Test.YtekdlkakcclejaaDigW
import Derived.Test.YtekdlkakcclejaaCur
import Derived.Test.YtekdlkakcclejaaJoinM
import Derived.Deep.QuietTactic
import Derived.Deep.RegionHeld3
import Derived.BigQuiet
import Derived.RegionTactic
import Derived.Lib.AppendStr
import Derived.Laws.IdiomStrings
import Derived.Laws.BytesArg
namespace Go.Proofs.Ytekdlkakcclejaa
open Go.RowKit

theorem infoU8 : (Try.prog.info? 5).map (fun i => (i.zero, i.size, i.bytes)) = some (some (.int .u8 0), 1, 1) := by kernel_rfl

/-- v reads as the texts ps in w. -/
def StrRow (w : World) (v : Value) (ps : List (List UInt8)) : Prop :=
  (ps = [] ∧ ∃ a c, v = .slice a 0 c) ∨ ∃ b off c, v = .slice (some ⟨b, off, none⟩) ps.length c ∧ ps.length ≤ 9223372036854775807 ∧ ps.length ≤ c ∧ (∀ (j : Nat) p, ps[j]? = some p → w.cell? ⟨b, off + j, none⟩ = some (.string ⟨p.toArray⟩))

theorem strRow_of_owns {w : World} {base : Nat} {T : TypeId} {v : Value} {ps : List (List UInt8)} (h : w.ownsRow base T 1 v ps.length (strCells ps)) (hl : ps.length ≤ 9223372036854775807) : StrRow w v ps := by
  rcases h.2 with ⟨rfl, h0⟩ | ⟨g, cap, cur, rfl, _, _, hnc, _, _, _⟩
  · exact Or.inl ⟨List.eq_nil_of_length_eq_zero h0, _, _, rfl⟩
  · refine Or.inr ⟨g, 0, cap, rfl, hl, hnc, fun j p hj => ?_⟩
    have hjl := (List.getElem?_eq_some_iff.1 hj).1
    rw [Nat.zero_add, h.cellAt j (by omega)]
    unfold strCells
    rw [List.getElem?_map, hj]
    rfl
theorem StrRow.below {w w' : World} {v : Value} {ps : List (List UInt8)} (h : StrRow w v ps) (hB : Below w.heap.size w w') : StrRow w' v ps := by
  rcases h with ⟨rfl, a, c, rfl⟩ | ⟨b, off, c, rfl, hl, hcap, hc⟩
  · exact Or.inl ⟨rfl, a, c, rfl⟩
  · refine Or.inr ⟨b, off, c, rfl, hl, hcap, fun j p hp => ?_⟩
    exact (hB.cell (p := ⟨b, off + j, none⟩) (World.block_lt_of_cell? w _ (hc j p hp))).trans (hc j p hp)

theorem ret_int {a b : Int} (h : a = b) : Ending.returned (.int .i64 a) = .returned (.int .i64 b) := by rw [h]

/-- What the size counts. -/
def SzOut (tot : Nat) (left : Nat) (e : Ending) : Prop := (tot ≤ left ∧ e = .returned (.int .i64 ((left : Int) - tot))) ∨ (left < tot ∧ e = .returned (.int .i64 (-1)))

/-- The first j cells of a row are the texts ps. -/
def Filled (w : World) (base : Nat) (v : Value) (n : Nat) (ps : List (List UInt8)) (j : Nat) : Prop := ∃ xs : List Value, w.ownsRow base 9 1 v n xs ∧ ∀ i p, i < j → ps[i]? = some p → xs[i]? = some (.string ⟨p.toArray⟩)

theorem Filled.cell {w : World} {base g cap : Nat} {n j : Nat} {ps : List (List UInt8)} (h : Filled w base (.slice (some ⟨g, 0, none⟩) n cap) n ps j) {i : Nat} (hi : i < n) : (∃ x, w.cell? ⟨g, i, none⟩ = some x) ∧ w.frozen? ⟨g, i, none⟩ = false := by
  obtain ⟨xs, ho, hx⟩ := h
  have hxl := ho.1
  refine ⟨⟨xs[i]'(by omega), ?_⟩, ho.frozenAt i⟩
  rw [ho.cellAt i (by omega), List.getElem?_eq_getElem (by omega)]
theorem Filled.store {w : World} {base g cap : Nat} {n j : Nat} {ps : List (List UInt8)} {p : List UInt8} (h : Filled w base (.slice (some ⟨g, 0, none⟩) n cap) n ps j) (hj : j < n) (hp : ps[j]? = some p) :
    Filled (w.setCell ⟨g, j, none⟩ (.string ⟨p.toArray⟩)) base (.slice (some ⟨g, 0, none⟩) n cap) n ps (j + 1) := by
  obtain ⟨xs, ho, hx⟩ := h
  have hs := ho.stored j (.string ⟨p.toArray⟩)
  have hxl := ho.1
  refine ⟨_, hs.1, fun i q hi hq => ?_⟩
  rw [List.getElem?_set]
  by_cases e : j = i
  · subst e
    rw [hp] at hq
    obtain rfl := Option.some.inj hq
    rw [if_pos rfl, if_pos (by omega)]
  · rw [if_neg e]
    exact hx i q (by omega) hq
theorem Filled.done {w : World} {base : Nat} {v : Value} {ps : List (List UInt8)} (h : Filled w base v ps.length ps ps.length) : w.ownsRow base 9 1 v ps.length (strCells ps) := by
  obtain ⟨xs, ho, hx⟩ := h
  have e : xs = strCells ps := by
    refine List.ext_getElem? fun i => ?_
    have hxl := ho.1
    by_cases hi : i < ps.length
    · rw [hx i ps[i] hi (List.getElem?_eq_getElem hi), strCells, List.getElem?_map, List.getElem?_eq_getElem hi]; rfl
    · rw [List.getElem?_eq_none (by omega), List.getElem?_eq_none (by rw [strCells_len]; omega)]
  rw [e] at ho
  exact ho

/-- The k-th mark. -/
def markOf (k : Nat) : List UInt8 := 109 :: Lib.decDigits k

theorem grown_of_below {w w' : World} (h : Below w.heap.size w w') (r : Option Nat) : w.grownBy w' r := ⟨h.os, h.tape, h.output, h.size, fun k hk _ => h.block k hk⟩

/-- The marks from k on, j of them. -/
def marks (k j : Nat) : List (List UInt8) := (List.range j).map fun i => markOf (k + i)
theorem marks_len (k j : Nat) : (marks k j).length = j := by simp [marks]
theorem marks_at {k j i : Nat} (h : i < j) : (marks k j)[i]? = some (markOf (k + i)) := by simp [marks, h]

/-- j of the row's cells are marked, the others are as they were. -/
def Marked (w : World) (base : Nat) (T : TypeId) (v : Value) (n k j : Nat) : Prop := ∃ xs : List Value, w.ownsRow base T 1 v n xs ∧ ∀ i, i < j → xs[i]? = some (.string ⟨(markOf (k + i)).toArray⟩)

theorem strRow_of_marked {w : World} {base : Nat} {T : TypeId} {v : Value} {n k : Nat} (h : Marked w base T v n k n) (hl : n ≤ 140737488355328) : StrRow w v (marks k n) := by
  obtain ⟨xs, ho, hx⟩ := h
  have e : xs = strCells (marks k n) := by
    refine List.ext_getElem? fun i => ?_
    by_cases hi : i < n
    · rw [hx i hi, strCells, List.getElem?_map, marks_at hi]; rfl
    · have hxl := ho.1
      rw [List.getElem?_eq_none (by omega), List.getElem?_eq_none (by rw [strCells_len, marks_len]; omega)]
  rw [e] at ho
  have hn := marks_len k n
  refine strRow_of_owns (base := base) (T := T) ?_ (by omega)
  rw [hn]
  exact ho

theorem Marked.below {w w' : World} {base : Nat} {T : TypeId} {v : Value} {n k j : Nat} (h : Marked w base T v n k j) (hB : Below w.heap.size w w') : Marked w' base T v n k j := by
  obtain ⟨xs, ho, hx⟩ := h
  exact ⟨xs, ho.kept (grown_of_below hB none) (by cases hv : v.ownBlock <;> simp), hx⟩
theorem Marked.store {w : World} {base g cap : Nat} {T : TypeId} {n k j : Nat} (h : Marked w base T (.slice (some ⟨g, 0, none⟩) n cap) n k j) (hj : j < n) :
    Marked (w.setCell ⟨g, j, none⟩ (.string ⟨(markOf (k + j)).toArray⟩)) base T (.slice (some ⟨g, 0, none⟩) n cap) n k (j + 1) ∧ w.grownBy (w.setCell ⟨g, j, none⟩ (.string ⟨(markOf (k + j)).toArray⟩)) (some g) := by
  obtain ⟨xs, ho, hx⟩ := h
  have hs := ho.stored j (.string ⟨(markOf (k + j)).toArray⟩)
  refine ⟨⟨_, hs.1, fun i hi => ?_⟩, hs.2⟩
  have hxl := ho.1
  rw [List.getElem?_set]
  by_cases e : j = i
  · subst e
    rw [if_pos rfl, if_pos (by omega)]
  · rw [if_neg e]
    exact hx i (by omega)
theorem Marked.cell {w : World} {base g cap : Nat} {T : TypeId} {n k j : Nat} (h : Marked w base T (.slice (some ⟨g, 0, none⟩) n cap) n k j) {i : Nat} (hi : i < n) : (∃ x, w.cell? ⟨g, i, none⟩ = some x) ∧ w.frozen? ⟨g, i, none⟩ = false := by
  obtain ⟨xs, ho, hx⟩ := h
  have hxl := ho.1
  refine ⟨⟨xs[i]'(by omega), ?_⟩, ho.frozenAt i⟩
  rw [ho.cellAt i (by omega), List.getElem?_eq_getElem (by omega)]

end Go.Proofs.Ytekdlkakcclejaa
