/-
  One rune of a text of rows, and what the reading keeps: mathematics and small facts.
-/
import Derived.Test.YtklhkebpgoajgaaDoorI7B
import Derived.Test.YtklhkebpgoajgaaDoorI7S
import Derived.Test.YtklhkebpgoajgaaDoorCsvI
namespace Go.Proofs.YtklhkebpgoajgaaDoor
open Go.RowKit

theorem st7_one {q : Nat} {c : UInt8} (h : st7 q c = 1) : c = 44 := by
  unfold st7 at h
  repeat' split at h
  all_goals first | assumption | (exfalso; omega)
theorem st7_zero {q : Nat} {c : UInt8} (h : st7 q c = 0) : c = 10 := by
  unfold st7 at h
  repeat' split at h
  all_goals first | assumption | (exfalso; omega)
theorem st7_le (q : Nat) (c : UInt8) : st7 q c ≤ 6 := by
  unfold st7
  repeat' split
  all_goals omega
theorem st7_five {q : Nat} {c : UInt8} (h : st7 q c = 5) : c = 13 := by
  unfold st7 at h
  repeat' split at h
  all_goals first | assumption | (exfalso; omega)
theorem st7_four {q : Nat} {c : UInt8} (h : st7 q c = 4) : c = 34 := by
  unfold st7 at h
  repeat' split at h
  all_goals first | assumption | (exfalso; omega)
/-- What lies between two places of a text. -/
theorem cut_toList (s : ByteArray) (p i : Nat) : (s.extract p i).data.toList = (s.data.toList.drop p).take (i - p) := Lib.extract_data s p i
theorem cut_more (s : ByteArray) {p i : Nat} (h : p ≤ i) (k : Nat) : (s.data.toList.drop p).take (i + k - p) = (s.data.toList.drop p).take (i - p) ++ (s.data.toList.drop i).take k := by
  rw [show i + k - p = (i - p) + k by omega, List.take_add, List.drop_drop, show p + (i - p) = i by omega]
/-- ONE RUNE. -/
theorem mach_rune (s : ByteArray) {i q p : Nat} (hi : i < s.size) (hp : p ≤ i) {row : List (List UInt8)} {rows : List (List (List UInt8))} {R : List (List (List UInt8)) ⊕ (Nat × Nat)}
    (h : mach (s.data.toList.drop i) q ((s.data.toList.drop p).take (i - p)) row rows = R) :
    ∃ v : Nat, st7R q (Utf8.decode s i).1 = v ∧ 1 ≤ (Utf8.decode s i).2 ∧ i + (Utf8.decode s i).2 ≤ s.size ∧
      ((v = 1 ∧ (Utf8.decode s i).2 = 1 ∧ mach (s.data.toList.drop (i + 1)) 1 [] (row ++ [fv7 ((s.data.toList.drop p).take (i - p))]) rows = R) ∨
       (v = 0 ∧ (Utf8.decode s i).2 = 1 ∧ mach (s.data.toList.drop (i + 1)) 0 [] [] (rows ++ [row ++ [fv7 ((s.data.toList.drop p).take (i - p))]]) = R) ∨
       (v = 6 ∧ R = .inr (rows.length, row.length)) ∨
       (2 ≤ v ∧ v < 6 ∧ mach (s.data.toList.drop (i + (Utf8.decode s i).2)) v ((s.data.toList.drop p).take (i + (Utf8.decode s i).2 - p)) row rows = R)) := by
  obtain ⟨x, hx⟩ : ∃ x : UInt8, s[i]'hi = x := ⟨_, rfl⟩
  have hd : s.data.toList.drop i = x :: s.data.toList.drop (i + 1) := by rw [drop_at hi, hx]
  have hst : st7R q (Utf8.decode s i).1 = (st7 q x : Int) ∧ 1 ≤ (Utf8.decode s i).2 ∧ i + (Utf8.decode s i).2 ≤ s.size := by
    by_cases ha : x.toNat < 128
    · have e := decode_ascii s i hi (by rw [hx]; exact ha)
      rw [e, hx]
      exact ⟨st7R_byte q x, Nat.le_refl _, hi⟩
    · have hr := rune_step s i hi (by rw [hx]; omega)
      exact ⟨st7R_high q (by omega) (by omega), hr.2.1, hr.2.2.1⟩
  have hone : x.toNat < 128 → (Utf8.decode s i).2 = 1 := fun ha => by rw [decode_ascii s i hi (by rw [hx]; exact ha)]
  refine ⟨st7 q x, hst.1, hst.2.1, hst.2.2, ?_⟩
  rw [hd, mach] at h
  by_cases h1 : st7 q x = 1
  · rw [if_pos h1] at h
    exact Or.inl ⟨h1, hone (by rw [st7_one h1]; decide), h⟩
  rw [if_neg h1] at h
  by_cases h0 : st7 q x = 0
  · rw [if_pos h0] at h
    exact Or.inr (Or.inl ⟨h0, hone (by rw [st7_zero h0]; decide), h⟩)
  rw [if_neg h0] at h
  by_cases h6 : st7 q x = 6
  · rw [if_pos h6] at h
    exact Or.inr (Or.inr (Or.inl ⟨h6, h.symm⟩))
  rw [if_neg h6] at h
  have hle := st7_le q x
  refine Or.inr (Or.inr (Or.inr ⟨by omega, by omega, ?_⟩))
  rw [cut_more s hp]
  by_cases ha : x.toNat < 128
  · rw [hone ha, hd, List.take_succ_cons, List.take_zero]
    exact h
  · have hr := rune_step s i hi (by rw [hx]; omega)
    have hv : st7 q x = 2 ∨ st7 q x = 3 := by
      have h5 : st7 q x ≠ 5 := fun e => by rw [st7_five e] at ha; revert ha; decide
      have h4 : st7 q x ≠ 4 := fun e => by rw [st7_four e] at ha; revert ha; decide
      omega
    obtain ⟨k, hk⟩ : ∃ k, (Utf8.decode s i).2 = k + 1 := ⟨(Utf8.decode s i).2 - 1, by omega⟩
    have hsp : s.data.toList.drop (i + 1) = (s.data.toList.drop (i + 1)).take k ++ s.data.toList.drop (i + (k + 1)) := by
      have e : s.data.toList.drop (i + (k + 1)) = (s.data.toList.drop (i + 1)).drop k := by rw [List.drop_drop, show i + 1 + k = i + (k + 1) by omega]
      rw [e, List.take_append_drop]
    rw [hsp, mach_high _ _ _ _ _ _ ?_ hv] at h
    · rw [hk, hd, List.take_succ_cons]
      rw [List.append_assoc] at h
      exact h
    · intro b hb
      obtain ⟨j, hj, e⟩ := List.getElem_of_mem hb
      rw [List.length_take] at hj
      rw [List.getElem_take, List.getElem_drop] at e
      refine hr.2.2.2 (i + 1 + j) b (by omega) (by rw [hk]; omega) ?_
      rw [List.getElem?_eq_some_iff]
      exact ⟨_, e⟩
/-- The text is through. -/
theorem mach_end (s : ByteArray) {q p : Nat} {row : List (List UInt8)} {rows : List (List (List UInt8))} {R : List (List (List UInt8)) ⊕ (Nat × Nat)}
    (h : mach (s.data.toList.drop s.size) q ((s.data.toList.drop p).take (s.size - p)) row rows = R) :
    ((q = 3 ∨ q = 5) → R = .inr (rows.length, row.length)) ∧ (q = 0 → R = .inl rows) ∧ (q ≠ 3 → q ≠ 5 → q ≠ 0 → R = .inl (rows ++ [row ++ [fv7 ((s.data.toList.drop p).take (s.size - p))]])) := by
  rw [drop_none (Nat.le_refl _), mach] at h
  refine ⟨fun hq => by rw [if_pos hq] at h; exact h.symm, fun hq => ?_, fun h3 h5 h0 => ?_⟩
  · rw [if_neg (by omega), if_pos hq] at h
    exact h.symm
  · rw [if_neg (by omega), if_neg h0] at h
    exact h.symm

/-! An iterator beside rows. -/
theorem iter_apart {w : World} {k base sz n : Nat} {T : TypeId} {v : Value} {xs : List Value} {s : ByteArray} {i : Nat} (hit : w.heap[k]? = some (.stringIter s i)) (ho : w.ownsRow base T sz v n xs) : v.ownBlock ≠ some k := by
  intro e
  rcases ho.2 with ⟨rfl, _⟩ | ⟨g, cap, cur, rfl, _, hg, _⟩
  · cases e
  · simp only [Value.ownBlock, Option.some.injEq] at e
    subst e
    rw [hit] at hg
    cases hg
theorem iter_grown {w w' : World} {k base sz n : Nat} {T : TypeId} {v : Value} {xs : List Value} {s : ByteArray} {i : Nat} (hit : w.heap[k]? = some (.stringIter s i)) (ho : w.ownsRow base T sz v n xs) (hg : w.grownBy w' v.ownBlock) : w'.heap[k]? = some (.stringIter s i) := by
  rw [hg.block k (blk_lt hit) (fun e => iter_apart hit ho e.symm)]
  exact hit
theorem CsvSt.iter {w wr : World} {lo k : Nat} {vo vr : Value} {rows : List (List (List UInt8))} {row : List (List UInt8)} {s : ByteArray} {i : Nat} (h : CsvSt w wr lo vo vr rows row) (hit : wr.heap[k]? = some (.stringIter s i)) (hk : w.heap.size ≤ k) (p : Nat) : CsvSt w (wr.iterAt k s p) lo vo vr rows row := by
  have hg : wr.grownBy (wr.iterAt k s p) (some k) := ⟨rfl, rfl, rfl, by rw [Lib.iterAt_size]; exact Nat.le_refl _, fun j _ hne => Lib.iterAt_other wr k j s p (fun e => hne (by rw [e]))⟩
  have keep : ∀ {base n : Nat} {T : TypeId} {v : Value} {xs : List Value}, wr.ownsRow base T 1 v n xs → (wr.iterAt k s p).ownsRow base T 1 v n xs := fun {base n T v xs} ho => ho.kept hg (by
    cases hb : v.ownBlock with
    | none => exact Or.inl rfl
    | some b => exact Or.inr (fun e => iter_apart hit ho (hb.trans e)))
  obtain ⟨vs, ho, hr, hlt⟩ := h.out
  refine ⟨Lib.below_iterAt h.below hk s p, ?_, ⟨vs, keep ho, ⟨hr.1, fun j u c hu hc => keep (hr.2.1 j u c hu hc), hr.2.2⟩, hlt⟩, keep h.row, h.le, by rw [Lib.iterAt_size]; exact h.hi⟩
  rw [Lib.iterAt_other _ _ _ _ _ (fun e => by have := h.cell; rw [e, hit] at this; cases this)]
  exact h.cell
theorem CsvSt.fin {w wr : World} {lo : Nat} {vo vr : Value} {rows : List (List (List UInt8))} {row : List (List UInt8)} (h : CsvSt w wr lo vo vr rows row) : OutSt w wr vo rows := by
  obtain ⟨vs, ho, hr, _⟩ := h.out
  exact ⟨h.below, h.cell, vs, ho, hr⟩
theorem nil_ss (w : World) (base : Nat) : SSOwn w base (.slice none 0 0) [] := ⟨[], World.ownsRow_nil _ _ _ _, RowsOwn.nil _ _ _⟩
theorem CsvSt.fault {w wr : World} {lo : Nat} {vo vr : Value} {rows : List (List (List UInt8))} {row : List (List UInt8)} (h : CsvSt w wr lo vo vr rows row) (x y z : Value) : Below w.heap.size w (((wr.setCell ⟨w.heap.size, 0, none⟩ x).setCell ⟨w.heap.size, 1, none⟩ y).setCell ⟨w.heap.size, 2, none⟩ z) :=
  ((h.below.setCell (Nat.le_refl _) _).setCell (Nat.le_refl _) _).setCell (Nat.le_refl _) _
theorem csvSt_start (w : World) : CsvSt w (((w.alloc (.cells #[.int .i64 0, .int .i64 0, .int .i64 0] 28)).alloc (.cells #[] 45)).alloc (.cells #[] 9)) (w.heap.size + 2) (.slice (some ⟨w.heap.size + 1, 0, none⟩) 0 0) (.slice (some ⟨w.heap.size + 2, 0, none⟩) 0 0) [] [] := by
  have h := (outSt_start w).start
  have e : ((w.alloc (.cells #[.int .i64 0, .int .i64 0, .int .i64 0] 28)).alloc (.cells #[] 45)).heap.size = w.heap.size + 2 := by simp
  rw [e] at h
  exact h
end Go.Proofs.YtklhkebpgoajgaaDoor
