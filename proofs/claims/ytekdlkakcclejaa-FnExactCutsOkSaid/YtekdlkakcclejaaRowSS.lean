/-
  The laws' own helpers on lists of lists of texts: equal, their size, their copy, their marks.
-/
import Derived.Test.YtekdlkakcclejaaRowS
import Derived.Test.YtekdlkakcclejaaArgsB
import Derived.Deep.Onto
namespace Go.Proofs.Ytekdlkakcclejaa
open Go.RowKit

/-- v reads as the rows L in w. -/
def SSRow (w : World) (v : Value) (L : List (List (List UInt8))) : Prop :=
  (L = [] ∧ ∃ a c, v = .slice a 0 c) ∨ ∃ b off c, v = .slice (some ⟨b, off, none⟩) L.length c ∧ L.length ≤ 9223372036854775807 ∧ L.length ≤ c ∧ (∀ (j : Nat) row, L[j]? = some row → ∃ u, w.cell? ⟨b, off + j, none⟩ = some u ∧ StrRow w u row)

theorem SSRow.below {w w' : World} {v : Value} {L : List (List (List UInt8))} (h : SSRow w v L) (hB : Below w.heap.size w w') : SSRow w' v L := by
  rcases h with ⟨rfl, a, c, rfl⟩ | ⟨b, off, c, rfl, hl, hcap, hc⟩
  · exact Or.inl ⟨rfl, a, c, rfl⟩
  · refine Or.inr ⟨b, off, c, rfl, hl, hcap, fun j p hp => ?_⟩
    obtain ⟨u, hu, hr⟩ := hc j p hp
    exact ⟨u, (hB.cell (p := ⟨b, off + j, none⟩) (World.block_lt_of_cell? w _ hu)).trans hu, hr.below hB⟩

/-- Rows of the call's own, each apart from the others. -/
def RowsOwn (w : World) (base : Nat) (T : TypeId) (vs : List Value) (C : List (List Value)) : Prop :=
  vs.length = C.length ∧ (∀ (j : Nat) u c, vs[j]? = some u → C[j]? = some c → w.ownsRow base T 1 u c.length c) ∧ (∀ (i j : Nat) u v b, i ≠ j → vs[i]? = some u → vs[j]? = some v → u.ownBlock = some b → v.ownBlock ≠ some b)

theorem RowsOwn.nil (w : World) (base : Nat) (T : TypeId) : RowsOwn w base T [] [] := ⟨rfl, by simp, by simp⟩

theorem RowsOwn.kept {w w' : World} {base : Nat} {T : TypeId} {vs : List Value} {C : List (List Value)} {r : Option Nat} (h : RowsOwn w base T vs C) (hg : w.grownBy w' r) (hne : ∀ (j : Nat) u g, vs[j]? = some u → u.ownBlock = some g → r ≠ some g) : RowsOwn w' base T vs C := by
  refine ⟨h.1, fun j u c hu hc => (h.2.1 j u c hu hc).kept hg ?_, h.2.2⟩
  cases hb : u.ownBlock with
  | none => exact Or.inl rfl
  | some g => exact Or.inr fun e => hne j u g hu hb e.symm
theorem RowsOwn.below {w w' : World} {base : Nat} {T : TypeId} {vs : List Value} {C : List (List Value)} (h : RowsOwn w base T vs C) (hB : Below w.heap.size w w') : RowsOwn w' base T vs C :=
  h.kept (grown_of_below hB none) (fun _ _ _ _ _ => by simp)
theorem RowsOwn.outer {w w' : World} {base base' n : Nat} {T T' : TypeId} {v : Value} {xs : List Value} {vs : List Value} {C : List (List Value)} (h : RowsOwn w base T vs C) (ho : w.ownsRow base' T' 1 v n xs) (hT : T ≠ T') (hg : w.grownBy w' v.ownBlock) : RowsOwn w' base T vs C := by
  refine h.kept hg fun j u g hu hb e => ?_
  have hj : j < C.length := by rw [← h.1]; exact (List.getElem?_eq_some_iff.1 hu).1
  exact owns_apart (h.2.1 j u C[j] hu (List.getElem?_eq_getElem hj)) ho hT g hb e
theorem RowsOwn.lt {w : World} {base : Nat} {T : TypeId} {vs : List Value} {C : List (List Value)} (h : RowsOwn w base T vs C) {j g : Nat} {u : Value} (hu : vs[j]? = some u) (hb : u.ownBlock = some g) : base ≤ g ∧ g < w.heap.size := by
  have hj : j < C.length := by rw [← h.1]; exact (List.getElem?_eq_some_iff.1 hu).1
  exact (h.2.1 j u C[j] hu (List.getElem?_eq_getElem hj)).lt g hb
theorem RowsOwn.snoc {w : World} {base lo : Nat} {T : TypeId} {vs : List Value} {C : List (List Value)} {u : Value} {c : List Value} (h : RowsOwn w base T vs C) (hu : w.ownsRow base T 1 u c.length c) (h1 : ∀ (j : Nat) x g, vs[j]? = some x → x.ownBlock = some g → g < lo) (h2 : ∀ g, u.ownBlock = some g → lo ≤ g) : RowsOwn w base T (vs ++ [u]) (C ++ [c]) := by
  have hl := h.1
  have key : ∀ (j : Nat) x, (vs ++ [u])[j]? = some x → vs[j]? = some x ∨ (j = vs.length ∧ x = u) := by
    intro j x hx
    by_cases hj : j < vs.length
    · rw [List.getElem?_append_left hj] at hx
      exact Or.inl hx
    · rw [List.getElem?_append_right (by omega)] at hx
      have hj0 : j - vs.length = 0 := by
        have := (List.getElem?_eq_some_iff.1 hx).1
        simp at this
        omega
      rw [hj0] at hx
      exact Or.inr ⟨by omega, by simpa using hx.symm⟩
  refine ⟨by simp [hl], fun j x d hx hd => ?_, fun i j x y b hij hx hy hb => ?_⟩
  · rcases key j x hx with hx | ⟨rfl, rfl⟩
    · have hj := (List.getElem?_eq_some_iff.1 hx).1
      rw [List.getElem?_append_left (by omega)] at hd
      exact h.2.1 j x d hx hd
    · rw [hl, List.getElem?_append_right (Nat.le_refl _)] at hd
      obtain rfl : c = d := by simpa using hd
      exact hu
  · intro hb2
    rcases key i x hx with hx2 | ⟨hi, hxu⟩
    · rcases key j y hy with hy2 | ⟨hj, hyu⟩
      · exact h.2.2 i j x y b hij hx2 hy2 hb hb2
      · have := h1 i x b hx2 hb
        rw [hyu] at hb2
        have := h2 b hb2
        omega
    · rcases key j y hy with hy2 | ⟨hj, hyu⟩
      · have := h1 j y b hy2 hb2
        rw [hxu] at hb
        have := h2 b hb
        omega
      · omega
theorem RowsOwn.put {w w' : World} {base : Nat} {T : TypeId} {vs : List Value} {C : List (List Value)} {j : Nat} {u : Value} {c : List Value} (h : RowsOwn w base T vs C) (hj : vs[j]? = some u) (hg : w.grownBy w' u.ownBlock) (hu : w'.ownsRow base T 1 u c.length c) : RowsOwn w' base T vs (C.set j c) := by
  have hl := h.1
  have hjl := (List.getElem?_eq_some_iff.1 hj).1
  refine ⟨by simp [hl], fun i x d hx hd => ?_, h.2.2⟩
  by_cases e : j = i
  · subst e
    rw [hj] at hx
    obtain rfl := Option.some.inj hx
    rw [List.getElem?_set_self (by omega)] at hd
    obtain rfl := Option.some.inj hd
    exact hu
  · rw [List.getElem?_set_ne e] at hd
    refine (h.2.1 i x d hx hd).kept hg ?_
    cases hb : x.ownBlock with
    | none => exact Or.inl rfl
    | some g => exact Or.inr fun e2 => h.2.2 i j x u g (fun e3 => e e3.symm) hx hj hb e2.symm

end Go.Proofs.Ytekdlkakcclejaa
