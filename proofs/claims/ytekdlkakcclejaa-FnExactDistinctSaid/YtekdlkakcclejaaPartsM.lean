/-
  The parts of a text at a byte: plain mathematics, and that the library's split gives them.
-/
import Derived.Lib.Split
import Derived.Lib.Join
import Derived.Lib.Hide
import Derived.Lib.IndexLaws
import Derived.Lib.SplitLaws
namespace Go.Proofs.Ytekdlkakcclejaa

/-- The parts of l at c. -/
def partsL (c : UInt8) : List UInt8 → List (List UInt8)
  | [] => [[]]
  | x :: r => if x = c then [] :: partsL c r else match partsL c r with
    | [] => [[x]]
    | p :: ps => (x :: p) :: ps

theorem parts_none {c : UInt8} : ∀ {l : List UInt8}, (∀ x ∈ l, x ≠ c) → partsL c l = [l]
  | [], _ => rfl
  | x :: r, h => by
    have h1 : x ≠ c := h x (by simp)
    rw [partsL, if_neg h1, parts_none (fun y hy => h y (by simp [hy]))]

theorem parts_cut {c : UInt8} (r : List UInt8) : ∀ {a : List UInt8}, (∀ x ∈ a, x ≠ c) → partsL c (a ++ c :: r) = a :: partsL c r
  | [], _ => by rw [List.nil_append, partsL, if_pos rfl]
  | x :: a, h => by
    have h1 : x ≠ c := h x (by simp)
    rw [List.cons_append, partsL, if_neg h1, parts_cut r (fun y hy => h y (by simp [hy]))]

theorem parts_pos {c : UInt8} (l : List UInt8) : 1 ≤ (partsL c l).length := by
  cases l with
  | nil => simp [partsL]
  | cons x r =>
    rw [partsL]
    split
    · simp
    · split <;> simp

theorem parts_len {c : UInt8} : ∀ (l : List UInt8), (partsL c l).length ≤ l.length + 1
  | [] => by simp [partsL]
  | x :: r => by
    have := parts_len (c := c) r
    rw [partsL]
    split
    · simp; omega
    · split <;> simp_all; omega

theorem parts_join {c : UInt8} : ∀ (l : List UInt8), Lib.join (partsL c l) [c] = l
  | [] => rfl
  | x :: r => by
    have ih := parts_join (c := c) r
    have hp := parts_pos (c := c) r
    rw [partsL]
    split
    · rename_i hx
      subst hx
      generalize partsL x r = q at ih hp
      cases q with
      | nil => simp at hp
      | cons p ps =>
        rw [Lib.join_cons] at ih
        rw [Lib.join_cons, Lib.joinTail, List.map_cons, List.flatten_cons]
        rw [Lib.joinTail] at ih
        simpa using ih
    · generalize partsL c r = q at ih hp
      cases q with
      | nil => simp at hp
      | cons p ps =>
        rw [Lib.join_cons] at ih
        rw [Lib.join_cons, List.cons_append, ih]

theorem occ_at {s : List UInt8} {c : UInt8} {i : Nat} : Lib.occAt s [c] i = true ↔ s[i]? = some c := by
  unfold Lib.occAt
  rw [← List.head?_drop]
  cases s.drop i with
  | nil => simp
  | cons x r =>
    have h : [c].isPrefixOf (x :: r) = (c == x) := by simp [List.isPrefixOf]
    rw [h, List.head?_cons, beq_iff_eq, Option.some.injEq]
    exact eq_comm

theorem splitK_parts (c : UInt8) : ∀ (n : Nat) (l : List UInt8), l.length ≤ n → Lib.splitK [c] 0 (Lib.count l [c]) l = partsL c l := by
  intro n
  induction n with
  | zero =>
    intro l hl
    obtain rfl : l = [] := List.eq_nil_of_length_eq_zero (by omega)
    rfl
  | succ n ih =>
    intro l hl
    rcases Lib.index_spec l [c] with ⟨h1, h2⟩ | ⟨i, h1, h2, h3, h4⟩
    · rw [Lib.count_miss h1, Lib.splitK]
      refine (parts_none fun x hx => ?_).symm
      rintro rfl
      obtain ⟨j, hj⟩ := List.getElem?_of_mem hx
      have hjl := (List.getElem?_eq_some_iff.1 hj).1
      have := h2 j (by omega)
      rw [occ_at.2 hj] at this
      cases this
    · have hi := occ_at.1 h3
      have hil := (List.getElem?_eq_some_iff.1 hi).1
      have hl2 : l = l.take i ++ c :: l.drop (i + 1) := by
        have e := List.take_append_drop i l
        have e2 : l.drop i = c :: l.drop (i + 1) := by
          rw [List.drop_eq_getElem_cons hil]
          congr 1
          exact (List.getElem?_eq_some_iff.1 hi).2
        rw [e2] at e
        exact e.symm
      have hno : ∀ x ∈ l.take i, x ≠ c := by
        rintro x hx rfl
        obtain ⟨j, hj⟩ := List.getElem?_of_mem hx
        have hji : j < i := by
          have := (List.getElem?_eq_some_iff.1 hj).1
          simp at this
          omega
        rw [List.getElem?_take, if_pos hji] at hj
        have := h4 j hji
        rw [occ_at.2 hj] at this
        cases this
      rw [Lib.count_hit (by simp) h1, Nat.add_comm, Lib.splitK]
      have hne : ¬ (Lib.index l [c] == -1) = true := by rw [h1]; simp
      rw [if_neg hne, h1]
      simp only [Int.toNat_natCast, Nat.add_zero, List.length_cons, List.length_nil, Nat.zero_add]
      rw [ih (l.drop (i + 1)) (by simp; omega)]
      conv => rhs; rw [hl2]
      rw [parts_cut _ hno]

/-- A list of texts as cells. -/
def strCells (ps : List (List UInt8)) : List Value := ps.map fun p => Value.string ⟨p.toArray⟩

theorem mk_toList (s : ByteArray) : (⟨s.data.toList.toArray⟩ : ByteArray) = s := by cases s; simp

theorem splitB_cells (s sep : ByteArray) (c : UInt8) (hsep : sep.data.toList = [c]) : (Lib.splitB sep 0 (Lib.countB s sep) s).map Value.string = strCells (partsL c s.data.toList) := by
  have h := Lib.splitB_data sep 0 (Lib.countB s sep) s
  have hc : Lib.countB s sep = Lib.count s.data.toList [c] := by
    unfold Lib.countB; rw [hsep]
  rw [hsep, hc, splitK_parts c _ _ (Nat.le_refl _)] at h
  unfold strCells
  rw [hc, ← h, List.map_map]
  refine List.map_congr_left fun x _ => ?_
  simp

theorem countB_parts (s sep : ByteArray) (c : UInt8) (hsep : sep.data.toList = [c]) : Lib.countB s sep + 1 = (partsL c s.data.toList).length := by
  have h := congrArg List.length (splitB_cells s sep c hsep)
  rw [List.length_map, strCells, List.length_map] at h
  rw [← h, Lib.splitB_all sep (by rw [Lib.size_eq, hsep]; simp) 0 _ s rfl]

/-- Where a split stands: fr: where the next part begins; k: how far the text is read; ps: the parts so far. -/
def PInv (c : UInt8) (l : List UInt8) (fr k : Nat) (ps : List (List UInt8)) : Prop :=
  (k ≤ l.length ∧ fr ≤ k ∧ (∀ x ∈ (l.drop fr).take (k - fr), x ≠ c) ∧ partsL c l = ps ++ partsL c (l.drop fr)) ∨ (k = l.length + 1 ∧ fr ≤ k ∧ partsL c l = ps)

theorem pinv_start (c : UInt8) (l : List UInt8) : PInv c l 0 0 [] := Or.inl ⟨Nat.zero_le _, Nat.le_refl _, by simp, by simp⟩

theorem pinv_more {c : UInt8} {l : List UInt8} {fr k : Nat} {ps : List (List UInt8)} (h : PInv c l fr k ps) (hk : k < l.length) (hne : l[k] ≠ c) : PInv c l fr (k + 1) ps := by
  rcases h with ⟨h1, h2, h3, h4⟩ | ⟨h1, _⟩
  · refine Or.inl ⟨by omega, by omega, ?_, h4⟩
    intro x hx
    rw [show k + 1 - fr = (k - fr) + 1 by omega, List.take_add_one, List.mem_append] at hx
    rcases hx with hx | hx
    · exact h3 x hx
    · rw [List.getElem?_drop, show fr + (k - fr) = k by omega, List.getElem?_eq_getElem hk] at hx
      simp at hx
      rw [hx]; exact hne
  · omega

theorem pinv_cut {c : UInt8} {l : List UInt8} {fr k : Nat} {ps : List (List UInt8)} (h : PInv c l fr k ps) (hk : k < l.length) (he : l[k] = c) : PInv c l (k + 1) (k + 1) (ps ++ [(l.drop fr).take (k - fr)]) := by
  rcases h with ⟨h1, h2, h3, h4⟩ | ⟨h1, _⟩
  · refine Or.inl ⟨by omega, Nat.le_refl _, by simp, ?_⟩
    have e : l.drop fr = (l.drop fr).take (k - fr) ++ c :: l.drop (k + 1) := by
      have e1 := List.take_append_drop (k - fr) (l.drop fr)
      rw [List.drop_drop, show fr + (k - fr) = k by omega, List.drop_eq_getElem_cons hk, he] at e1
      exact e1.symm
    rw [h4]
    conv => lhs; rw [e]
    rw [parts_cut _ h3, List.append_assoc]
    rfl
  · omega

theorem pinv_end {c : UInt8} {l : List UInt8} {fr k : Nat} {ps : List (List UInt8)} (h : PInv c l fr k ps) (hk : k = l.length) : PInv c l (k + 1) (k + 1) (ps ++ [(l.drop fr).take (k - fr)]) := by
  rcases h with ⟨h1, h2, h3, h4⟩ | ⟨h1, _⟩
  · refine Or.inr ⟨by omega, Nat.le_refl _, ?_⟩
    have e : (l.drop fr).take (k - fr) = l.drop fr := List.take_of_length_le (by simp; omega)
    rw [e] at h3 ⊢
    rw [h4, parts_none h3]
  · omega

theorem pinv_done {c : UInt8} {l : List UInt8} {fr k : Nat} {ps : List (List UInt8)} (h : PInv c l fr k ps) (hk : ¬ k ≤ l.length) : ps = partsL c l := by
  rcases h with ⟨h1, _⟩ | ⟨_, _, h⟩
  · omega
  · exact h.symm
theorem pinv_le {c : UInt8} {l : List UInt8} {fr k : Nat} {ps : List (List UInt8)} (h : PInv c l fr k ps) : ps.length ≤ l.length + 1 ∧ fr ≤ k ∧ k ≤ l.length + 1 := by
  have hp := parts_len (c := c) l
  rcases h with ⟨h1, h2, _, h4⟩ | ⟨h1, h2, h⟩
  · have := congrArg List.length h4
    simp at this
    omega
  · rw [h] at hp
    omega

theorem extract_mk (s : ByteArray) (a b : Nat) : s.extract a b = ⟨((s.data.toList.drop a).take (b - a)).toArray⟩ := by
  have h := Lib.extract_data s a b
  cases hs : s.extract a b with
  | mk d =>
    rw [hs] at h
    simp only at h
    rw [← h]
end Go.Proofs.Ytekdlkakcclejaa
