/-
  The laws' own helpers on lists of lists of texts: their size, their copy, their marks.
-/
import Derived.Test.YticeagjonfifbaaRowSS
namespace Go.Proofs.Yticeagjonfifbaa
open Go.RowKit

/-- What the size of a list of rows counts. -/
def szL (L : List (List (List UInt8))) : Nat := (L.map fun r => r.length + lensum r).sum
theorem szL_take_succ {L : List (List (List UInt8))} {k : Nat} {p : List (List UInt8)} (h : L[k]? = some p) : szL (L.take (k + 1)) = szL (L.take k) + (p.length + lensum p) := by
  unfold szL
  rw [List.take_add_one, h, List.map_append, List.sum_append]
  simp
theorem szL_take_le (L : List (List (List UInt8))) (k : Nat) : szL (L.take k) ≤ szL L := by
  have e : szL L = szL (L.take k) + szL (L.drop k) := by
    unfold szL
    rw [← List.sum_append, ← List.map_append, List.take_append_drop]
  omega
theorem szL_mem {L : List (List (List UInt8))} {r : List (List UInt8)} (h : r ∈ L) : r.length + lensum r ≤ szL L := by
  induction L with
  | nil => cases h
  | cons a t ih =>
    have e : szL (a :: t) = (a.length + lensum a) + szL t := by simp [szL]
    rcases List.mem_cons.1 h with rfl | h
    · omega
    · have := ih h
      omega

theorem szStr_fits (w : World) (v : Value) (left : Nat) (ps : List (List UInt8)) (h : StrRow w v ps) (hleft : left ≤ 1048576) (hsz : ∀ p ∈ ps, p.length ≤ 9223372036854775807) (hf : ps.length + lensum ps ≤ left) :
    Calls Try.prog 36 #[v, .int .i64 left] w fun e w' => e = .returned (.int .i64 ((left - (ps.length + lensum ps) : Nat) : Int)) ∧ w = w' :=
  (szStr w v left ps h hleft hsz).mono fun e w' ⟨he, hw⟩ => ⟨by
    rcases he with ⟨_, he⟩ | ⟨hlt, _⟩
    · rw [he]
      exact ret_int (by omega)
    · omega, hw⟩
theorem szStr_not (w : World) (v : Value) (left : Nat) (ps : List (List UInt8)) (h : StrRow w v ps) (hleft : left ≤ 1048576) (hsz : ∀ p ∈ ps, p.length ≤ 9223372036854775807) (hf : left < ps.length + lensum ps) :
    Calls Try.prog 36 #[v, .int .i64 left] w fun e w' => e = .returned (.int .i64 (-1)) ∧ w = w' :=
  (szStr w v left ps h hleft hsz).mono fun e w' ⟨he, hw⟩ => ⟨by
    rcases he with ⟨hle, _⟩ | ⟨_, he⟩
    · omega
    · exact he, hw⟩

/-- The first j rows are copied. -/
def SSFilled (w : World) (base : Nat) (v : Value) (n : Nat) (L : List (List (List UInt8))) (j : Nat) : Prop :=
  ∃ vs : List Value, w.ownsRow base 24 1 v n vs ∧ RowsOwn w base 9 (vs.take j) ((L.take j).map strCells)
theorem SSFilled.done {w : World} {base : Nat} {v : Value} {L : List (List (List UInt8))} (h : SSFilled w base v L.length L L.length) : SSOwn w base v L := by
  obtain ⟨vs, ho, hr⟩ := h
  have hlen := ho.1
  rw [List.take_of_length_le (by omega), List.take_of_length_le (Nat.le_refl _)] at hr
  exact ⟨vs, ho, hr⟩
theorem SSFilled.cell {w : World} {base g cap : Nat} {n j : Nat} {L : List (List (List UInt8))} (h : SSFilled w base (.slice (some ⟨g, 0, none⟩) n cap) n L j) {i : Nat} (hi : i < n) : (∃ x, w.cell? ⟨g, i, none⟩ = some x) ∧ w.frozen? ⟨g, i, none⟩ = false := by
  obtain ⟨xs, ho, hx⟩ := h
  have hxl := ho.1
  refine ⟨⟨xs[i]'(by omega), ?_⟩, ho.frozenAt i⟩
  rw [ho.cellAt i (by omega), List.getElem?_eq_getElem (by omega)]
theorem SSFilled.below {w w' : World} {base n j : Nat} {v : Value} {L : List (List (List UInt8))} (h : SSFilled w base v n L j) (hB : Below w.heap.size w w') : SSFilled w' base v n L j := by
  obtain ⟨vs, ho, hr⟩ := h
  exact ⟨vs, ho.kept (grown_of_below hB none) (by cases hv : v.ownBlock <;> simp), hr.below hB⟩
theorem SSFilled.step {wr w : World} {base g cap : Nat} {n j : Nat} {L : List (List (List UInt8))} {p : List (List UInt8)} {u : Value} (h : SSFilled wr base (.slice (some ⟨g, 0, none⟩) n cap) n L j) (hB : Below wr.heap.size wr w) (hj : j < n) (hp : L[j]? = some p)
    (hu : w.ownsRow wr.heap.size 9 1 u p.length (strCells p)) (hlo : base ≤ wr.heap.size) :
    SSFilled (w.setCell ⟨g, j, none⟩ u) base (.slice (some ⟨g, 0, none⟩) n cap) n L (j + 1) := by
  obtain ⟨vs, ho0, hr0⟩ := h
  have ho := ho0.kept (grown_of_below hB none) (Or.inr (by simp [Value.ownBlock]))
  have hr := hr0.below hB
  have hs := ho.stored j u
  have hxl := ho.1
  have hT : 9 ≠ 24 := by decide
  have hr2 := hr.outer ho hT hs.2
  have hu2 : (w.setCell ⟨g, j, none⟩ u).ownsRow base 9 1 u (strCells p).length (strCells p) := by
    rw [strCells_len]
    refine World.ownsRow.mono (hu.kept hs.2 ?_) hlo
    cases hb : u.ownBlock with
    | none => exact Or.inl rfl
    | some b => exact Or.inr (fun e => owns_apart hu ho hT b hb e.symm)
  refine ⟨_, hs.1, ?_⟩
  have e1 : (vs.set j u).take (j + 1) = vs.take j ++ [u] := by
    have hjv : j < vs.length := by omega
    rw [List.take_add_one, List.getElem?_set_self hjv, List.take_set_of_le (Nat.le_refl _)]
    rfl
  have e2 : (L.take (j + 1)).map strCells = (L.take j).map strCells ++ [strCells p] := by
    rw [List.take_add_one, hp, List.map_append]
    rfl
  rw [e1, e2]
  exact hr2.snoc (lo := wr.heap.size) hu2 (fun i x b hx hb => (hr0.lt hx hb).2) (fun b hb => (hu.lt b hb).1)

theorem owns_slice {w : World} {base s n : Nat} {T : TypeId} {v : Value} {xs : List Value} (h : w.ownsRow base T s v n xs) : ∃ a m c, v = .slice a m c := by
  rcases h.2 with ⟨rfl, _⟩ | ⟨g, cap, cur, rfl, _⟩
  · exact ⟨_, _, _, rfl⟩
  · exact ⟨_, _, _, rfl⟩

theorem toStrP (w : World) (v : Value) (ps : List (List UInt8)) (h : StrRow w v ps) (hl : ps.length ≤ 1048576) :
    Calls Try.prog 39 #[v] w fun e w' => ∃ u, e = .returned u ∧ w'.ownsRow w.heap.size 9 1 u ps.length (strCells ps) ∧ Below w.heap.size w w' := toStr w v ps h hl

end Go.Proofs.Yticeagjonfifbaa
