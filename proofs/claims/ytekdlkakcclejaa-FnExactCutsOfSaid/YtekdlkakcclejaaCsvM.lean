/-
  Rows of fields and their text: plain mathematics.
-/
import Derived.Lib.Join
namespace Go.Proofs.Ytekdlkakcclejaa

/-- Whether a byte makes quotes necessary. -/
def spB (c : UInt8) : Bool := c == 44 || c == 34 || c == 10 || c == 13
/-- A field with its quotes doubled. -/
def dblL : List UInt8 → List UInt8
  | [] => []
  | c :: r => if c = 34 then 34 :: 34 :: dblL r else c :: dblL r
/-- A field's text. -/
def csvF (l : List UInt8) : List UInt8 := if l.any spB = true then 34 :: (dblL l ++ [34]) else l
/-- A row's text without its end. -/
def rowT : List (List UInt8) → List UInt8
  | [] => []
  | [a] => csvF a
  | a :: b :: r => csvF a ++ 44 :: rowT (b :: r)
/-- The text of rows. -/
def csvT : List (List (List UInt8)) → List UInt8
  | [] => []
  | r :: t => rowT r ++ 10 :: csvT t

theorem dblL_append (a b : List UInt8) : dblL (a ++ b) = dblL a ++ dblL b := by
  induction a with
  | nil => rfl
  | cons c r ih =>
    rw [List.cons_append, dblL, dblL, ih]
    split <;> simp
theorem dblL_len (l : List UInt8) : (dblL l).length ≤ 2 * l.length := by
  induction l with
  | nil => simp [dblL]
  | cons c r ih =>
    rw [dblL]
    split <;> simp only [List.length_cons] <;> omega
theorem csvF_len (l : List UInt8) : (csvF l).length ≤ 2 * l.length + 2 := by
  have := dblL_len l
  unfold csvF
  split
  · simp only [List.length_cons, List.length_append, List.length_nil]; omega
  · omega
theorem rowT_snoc (r : List (List UInt8)) (f : List UInt8) : rowT (r ++ [f]) = if r = [] then csvF f else rowT r ++ 44 :: csvF f := by
  induction r with
  | nil => simp [rowT]
  | cons a t ih =>
    rw [if_neg (by simp)]
    cases t with
    | nil => simp [rowT]
    | cons b u =>
      rw [if_neg (by simp)] at ih
      show rowT (a :: b :: (u ++ [f])) = _
      rw [rowT, show b :: (u ++ [f]) = (b :: u) ++ [f] from rfl, ih, rowT]
      simp
theorem csvT_append (a b : List (List (List UInt8))) : csvT (a ++ b) = csvT a ++ csvT b := by
  induction a with
  | nil => rfl
  | cons r t ih => rw [List.cons_append, csvT, csvT, ih]; simp
theorem csvT_snoc (a : List (List (List UInt8))) (r : List (List UInt8)) : csvT (a ++ [r]) = csvT a ++ (rowT r ++ [10]) := by
  rw [csvT_append]; rfl

/-- A quoted field, behind its first quote: what it holds, and what is left. -/
def rdQ : List UInt8 → Option (List UInt8 × List UInt8)
  | [] => none
  | [c] => if c = 34 then some ([], []) else none
  | c :: d :: t => if c = 34 then (if d = 34 then (rdQ t).map fun p => (34 :: p.1, p.2) else some ([], d :: t)) else (rdQ (d :: t)).map fun p => (c :: p.1, p.2)
/-- A field without quotes. -/
def rdU : List UInt8 → Option (List UInt8 × List UInt8)
  | [] => some ([], [])
  | c :: r => if c = 44 ∨ c = 10 ∨ c = 13 then some ([], c :: r) else if c = 34 then none else (rdU r).map fun p => (c :: p.1, p.2)
/-- A field. -/
def rdF : List UInt8 → Option (List UInt8 × List UInt8)
  | [] => some ([], [])
  | c :: r => if c = 34 then rdQ r else rdU (c :: r)
/-- The rest of a row: its fields and what is left, or the place of the fault. -/
def rdRow : Nat → List UInt8 → List (List UInt8) → (List (List UInt8) × List UInt8) ⊕ Nat
  | 0, _, row => .inr row.length
  | n + 1, l, row =>
    match rdF l with
    | none => .inr row.length
    | some (f, []) => .inl (row ++ [f], [])
    | some (f, c :: r) =>
      if c = 44 then rdRow n r (row ++ [f])
      else if c = 10 then .inl (row ++ [f], r)
      else if c = 13 ∧ r.head? = some 10 then .inl (row ++ [f], r.tail)
      else .inr row.length
/-- The rows, or the place of the fault. -/
def rdAll : Nat → List UInt8 → List (List (List UInt8)) → List (List (List UInt8)) ⊕ (Nat × Nat)
  | 0, _, out => .inl out
  | n + 1, l, out =>
    match l with
    | [] => .inl out
    | c :: t =>
      match rdRow (t.length + 2) (c :: t) [] with
      | .inr k => .inr (out.length, k)
      | .inl (row, r) => rdAll n r (out ++ [row])
/-- The rows of a text, or the place of the fault. -/
def rdCsv (l : List UInt8) : List (List (List UInt8)) ⊕ (Nat × Nat) := rdAll (l.length + 1) l []

theorem rdQ_plain {c : UInt8} (h : c ≠ 34) (r : List UInt8) : rdQ (c :: r) = (rdQ r).map fun p => (c :: p.1, p.2) := by
  cases r with
  | nil => simp [rdQ, h]
  | cons d t => rw [rdQ, if_neg h]
theorem rdQ_two (r : List UInt8) : rdQ (34 :: 34 :: r) = (rdQ r).map fun p => (34 :: p.1, p.2) := by
  rw [rdQ, if_pos rfl, if_pos rfl]
theorem rdQ_end {r : List UInt8} (h : r.head? ≠ some 34) : rdQ (34 :: r) = some ([], r) := by
  cases r with
  | nil => simp [rdQ]
  | cons d t =>
    have hd : d ≠ 34 := by intro e; apply h; rw [e]; rfl
    rw [rdQ, if_pos rfl, if_neg hd]
theorem rdQ_dbl (f : List UInt8) {r : List UInt8} (h : r.head? ≠ some 34) : rdQ (dblL f ++ 34 :: r) = some (f, r) := by
  induction f with
  | nil => exact rdQ_end h
  | cons c t ih =>
    by_cases hc : c = 34
    · subst hc
      rw [dblL, if_pos rfl, List.cons_append, List.cons_append, rdQ_two, ih]
      rfl
    · rw [dblL, if_neg hc, List.cons_append, rdQ_plain hc, ih]
      rfl
theorem rdU_plain (f : List UInt8) {r : List UInt8} (hf : f.any spB = false) (h : r = [] ∨ ∃ c t, r = c :: t ∧ (c = 44 ∨ c = 10 ∨ c = 13)) : rdU (f ++ r) = some (f, r) := by
  induction f with
  | nil =>
    rcases h with rfl | ⟨c, t, rfl, hc⟩
    · rfl
    · rw [List.nil_append, rdU, if_pos hc]
  | cons c t ih =>
    simp only [List.any_cons, Bool.or_eq_false_iff] at hf
    have hc := hf.1
    simp only [spB, Bool.or_eq_false_iff, beq_eq_false_iff_ne] at hc
    rw [List.cons_append, rdU, if_neg (by simp [hc]), if_neg hc.1.1.2, ih hf.2]
    rfl
theorem rdF_csvF (f : List UInt8) {r : List UInt8} (h : r = [] ∨ ∃ c t, r = c :: t ∧ (c = 44 ∨ c = 10 ∨ c = 13)) : rdF (csvF f ++ r) = some (f, r) := by
  have hq : r.head? ≠ some 34 := by
    rcases h with rfl | ⟨c, t, rfl, hc⟩
    · simp
    · intro e
      have : c = 34 := by simpa using e
      subst this
      revert hc
      decide
  by_cases hf : f.any spB = true
  · rw [csvF, if_pos hf, List.cons_append, rdF, if_pos rfl, List.append_assoc]
    exact rdQ_dbl f hq
  · have hf' : f.any spB = false := by simpa using hf
    rw [csvF, if_neg hf]
    have := rdU_plain f hf' h
    cases f with
    | nil =>
      rcases h with rfl | ⟨c, t, rfl, hc⟩
      · rfl
      · rw [List.nil_append, rdF, if_neg (by intro e; subst e; revert hc; decide)]
        exact this
    | cons c t =>
      have hc : c ≠ 34 := by
        intro e
        subst e
        simp [spB] at hf'
      rw [List.cons_append, rdF, if_neg hc]
      exact this
theorem rdRow_rowT : ∀ (row : List (List UInt8)) (n : Nat) (t : List UInt8) (acc : List (List UInt8)), row ≠ [] → row.length ≤ n → rdRow n (rowT row ++ 10 :: t) acc = .inl (acc ++ row, t)
  | [], _, _, _, h, _ => absurd rfl h
  | [a], n, t, acc, _, hn => by
    obtain ⟨m, rfl⟩ : ∃ m, n = m + 1 := ⟨n - 1, by simp at hn; omega⟩
    rw [rowT, rdRow, rdF_csvF a (Or.inr ⟨10, t, rfl, by decide⟩)]
    simp
  | a :: b :: r, n, t, acc, _, hn => by
    obtain ⟨m, rfl⟩ : ∃ m, n = m + 1 := ⟨n - 1, by simp at hn; omega⟩
    rw [rowT, rdRow, List.append_assoc, List.cons_append, rdF_csvF a (Or.inr ⟨44, _, rfl, by decide⟩)]
    have ih := rdRow_rowT (b :: r) m t (acc ++ [a]) (by simp) (by simp at hn ⊢; omega)
    simp only [if_true]
    rw [ih]
    simp
theorem rowT_len (row : List (List UInt8)) : row.length ≤ (rowT row).length + 1 := by
  match row with
  | [] => simp
  | [a] => simp
  | a :: b :: r =>
    have := rowT_len (b :: r)
    rw [rowT]
    simp only [List.length_cons, List.length_append] at this ⊢
    omega
theorem rdAll_csvT : ∀ (rows : List (List (List UInt8))) (n : Nat) (out : List (List (List UInt8))), (∀ r ∈ rows, r ≠ []) → rows.length < n → rdAll n (csvT rows) out = .inl (out ++ rows)
  | [], n, out, _, hn => by
    obtain ⟨m, rfl⟩ : ∃ m, n = m + 1 := ⟨n - 1, by simp at hn; omega⟩
    rw [csvT, rdAll, List.append_nil]
  | r :: t, n, out, hr, hn => by
    obtain ⟨m, rfl⟩ : ∃ m, n = m + 1 := ⟨n - 1, by simp at hn; omega⟩
    have ih := rdAll_csvT t m (out ++ [r]) (fun x hx => hr x (by simp [hx])) (by simp at hn; omega)
    have hl := rowT_len r
    have hne := hr r (by simp)
    have hstep := fun k hk => rdRow_rowT r k (csvT t) [] hne hk
    have hlen : (rowT r ++ 10 :: csvT t).length = (rowT r).length + (csvT t).length + 1 := by simp; omega
    rw [csvT]
    generalize hg : rowT r ++ 10 :: csvT t = g at hstep hlen
    match g with
    | [] => simp at hlen
    | c :: u =>
      rw [rdAll, hstep (u.length + 2) (by simp at hlen; omega)]
      show rdAll m (csvT t) (out ++ [[] ++ r]) = _
      rw [List.nil_append, ih]
      simp
/-- ROWS ARE READ AS THEY ARE WRITTEN. -/
theorem rd_csvT {rows : List (List (List UInt8))} (h : ∀ r ∈ rows, r ≠ []) : rdCsv (csvT rows) = .inl rows := by
  have hl : ∀ rows : List (List (List UInt8)), rows.length ≤ (csvT rows).length := by
    intro rows
    induction rows with
    | nil => simp
    | cons r t ih => rw [csvT]; simp only [List.length_cons, List.length_append]; omega
  rw [rdCsv, rdAll_csvT rows _ [] h (by have := hl rows; omega)]
  rfl

/-- What a quoted field holds is shorter than what it was. -/
theorem rdQ_len : ∀ {l f r : List UInt8}, rdQ l = some (f, r) → f.length + r.length + 1 ≤ l.length
  | [], f, r, h => by simp [rdQ] at h
  | [c], f, r, h => by
    rw [rdQ] at h
    split at h
    · simp only [Option.some.injEq, Prod.mk.injEq] at h
      obtain ⟨rfl, rfl⟩ := h
      simp
    · cases h
  | c :: d :: t, f, r, h => by
    rw [rdQ] at h
    split at h
    · split at h
      · obtain ⟨⟨x, y⟩, hp, he⟩ := Option.map_eq_some_iff.mp h
        have := rdQ_len hp
        simp only [Prod.mk.injEq] at he
        obtain ⟨rfl, rfl⟩ := he
        simp only [List.length_cons]
        omega
      · simp only [Option.some.injEq, Prod.mk.injEq] at h
        obtain ⟨rfl, rfl⟩ := h
        simp
    · obtain ⟨⟨x, y⟩, hp, he⟩ := Option.map_eq_some_iff.mp h
      have := rdQ_len hp
      simp only [Prod.mk.injEq] at he
      obtain ⟨rfl, rfl⟩ := he
      simp only [List.length_cons] at this ⊢
      omega
theorem rdU_len : ∀ {l f r : List UInt8}, rdU l = some (f, r) → f.length + r.length = l.length
  | [], f, r, h => by
    simp only [rdU, Option.some.injEq, Prod.mk.injEq] at h
    obtain ⟨rfl, rfl⟩ := h
    rfl
  | c :: t, f, r, h => by
    rw [rdU] at h
    split at h
    · simp only [Option.some.injEq, Prod.mk.injEq] at h
      obtain ⟨rfl, rfl⟩ := h
      simp
    · split at h
      · cases h
      · obtain ⟨⟨x, y⟩, hp, he⟩ := Option.map_eq_some_iff.mp h
        have := rdU_len hp
        simp only [Prod.mk.injEq] at he
        obtain ⟨rfl, rfl⟩ := he
        simp only [List.length_cons]
        omega
theorem rdF_len {l f r : List UInt8} (h : rdF l = some (f, r)) : f.length + r.length ≤ l.length := by
  cases l with
  | nil =>
    simp only [rdF, Option.some.injEq, Prod.mk.injEq] at h
    obtain ⟨rfl, rfl⟩ := h
    simp
  | cons c t =>
    rw [rdF] at h
    split at h
    · have := rdQ_len h
      simp only [List.length_cons]
      omega
    · have := rdU_len h
      omega
/-- How long the text of a field and of what stands around it may be. -/
def fieldsW : List (List UInt8) → Nat
  | [] => 0
  | f :: r => 2 * f.length + 3 + fieldsW r
theorem fieldsW_append (a b : List (List UInt8)) : fieldsW (a ++ b) = fieldsW a + fieldsW b := by
  induction a with
  | nil => simp [fieldsW]
  | cons f r ih => rw [List.cons_append, fieldsW, fieldsW, ih]; omega
theorem rowT_w : ∀ row : List (List UInt8), (rowT row).length + 1 ≤ fieldsW row + 1
  | [] => by simp [rowT]
  | [a] => by have := csvF_len a; rw [rowT, fieldsW]; omega
  | a :: b :: r => by
    have := csvF_len a
    have ih := rowT_w (b :: r)
    rw [rowT, fieldsW]
    simp only [List.length_append, List.length_cons]
    omega
/-- A row that is read: it is not empty, and it took its bytes from the text. -/
theorem rdRow_w : ∀ (n : Nat) (l : List UInt8) (acc row : List (List UInt8)) (r : List UInt8), rdRow n l acc = .inl (row, r) → acc.length < row.length ∧ fieldsW row + 5 * r.length ≤ fieldsW acc + 5 * l.length + 3 ∧ (l ≠ [] → r.length < l.length)
  | 0, l, acc, row, r, h => by cases h
  | n + 1, l, acc, row, r, h => by
    rw [rdRow] at h
    cases hf : rdF l with
    | none => rw [hf] at h; cases h
    | some p =>
      obtain ⟨f, t⟩ := p
      rw [hf] at h
      have hl := rdF_len hf
      cases t with
      | nil =>
        simp only [Sum.inl.injEq, Prod.mk.injEq] at h
        obtain ⟨rfl, rfl⟩ := h
        rw [fieldsW_append]
        simp only [fieldsW, List.length_append, List.length_cons, List.length_nil]
        refine ⟨by omega, by simp at hl; omega, fun hne => ?_⟩
        have := List.length_pos_iff.mpr hne
        omega
      | cons c u =>
        simp only [List.length_cons] at hl
        simp only at h
        split at h
        · have ih := rdRow_w n u (acc ++ [f]) row r h
          rw [fieldsW_append] at ih
          simp only [fieldsW, List.length_append, List.length_cons, List.length_nil] at ih
          refine ⟨by omega, by omega, fun _ => ?_⟩
          by_cases hu : u = []
          · subst hu
            have : rdRow n [] (acc ++ [f]) = .inl (row, r) := h
            cases n with
            | zero => cases this
            | succ m =>
              rw [rdRow] at this
              simp only [rdF, Sum.inl.injEq, Prod.mk.injEq] at this
              rw [← this.2]
              simp
              omega
          · have := ih.2.2 hu
            omega
        · split at h
          · simp only [Sum.inl.injEq, Prod.mk.injEq] at h
            obtain ⟨rfl, rfl⟩ := h
            rw [fieldsW_append]
            simp only [fieldsW, List.length_append, List.length_cons, List.length_nil]
            exact ⟨by omega, by omega, fun _ => by omega⟩
          · split at h
            · simp only [Sum.inl.injEq, Prod.mk.injEq] at h
              obtain ⟨rfl, rfl⟩ := h
              rw [fieldsW_append]
              simp only [fieldsW, List.length_append, List.length_cons, List.length_nil, List.length_tail]
              exact ⟨by omega, by omega, fun _ => by omega⟩
            · cases h
theorem rdRow_col : ∀ (n : Nat) (l : List UInt8) (acc : List (List UInt8)) (k : Nat), rdRow n l acc = .inr k → k ≤ acc.length + l.length
  | 0, l, acc, k, h => by
    have : acc.length = k := by simpa [rdRow] using h
    omega
  | n + 1, l, acc, k, h => by
    rw [rdRow] at h
    cases hf : rdF l with
    | none =>
      rw [hf] at h
      have : acc.length = k := by simpa using h
      omega
    | some p =>
      obtain ⟨f, t⟩ := p
      rw [hf] at h
      have hl := rdF_len hf
      cases t with
      | nil => cases h
      | cons c u =>
        simp only [List.length_cons] at hl
        simp only at h
        split at h
        · have ih := rdRow_col n u (acc ++ [f]) k h
          simp only [List.length_append, List.length_cons, List.length_nil] at ih
          omega
        · split at h
          · cases h
          · split at h
            · cases h
            · have : acc.length = k := by simpa using h
              omega
/-- What is read of a text: rows that are not empty, whose text is not much longer; or a fault in the text's bounds. -/
theorem rdAll_w : ∀ (n : Nat) (l : List UInt8) (out rows : List (List (List UInt8))), l.length < n → rdAll n l out = .inl rows → (∀ r ∈ out, r ≠ []) → (∀ r ∈ rows, r ≠ []) ∧ (csvT rows).length ≤ (csvT out).length + 9 * l.length ∧ rows.length ≤ out.length + l.length
  | 0, l, out, rows, hn, h, ho => by omega
  | n + 1, [], out, rows, hn, h, ho => by
    rw [rdAll] at h
    obtain rfl : out = rows := by simpa using h
    exact ⟨ho, by omega, by omega⟩
  | n + 1, c :: t, out, rows, hn, h, ho => by
    rw [rdAll] at h
    cases hr : rdRow (t.length + 2) (c :: t) [] with
    | inr k => rw [hr] at h; cases h
    | inl p =>
      obtain ⟨row, r⟩ := p
      rw [hr] at h
      have hw := rdRow_w _ _ _ _ _ hr
      have hlt := hw.2.2 (by simp)
      have hrow : row ≠ [] := by
        intro e
        rw [e] at hw
        simp at hw
      have ih := rdAll_w n r (out ++ [row]) rows (by simp only [List.length_cons] at hlt hn; omega) h (by
        intro x hx
        rcases List.mem_append.mp hx with hx | hx
        · exact ho x hx
        · obtain rfl : x = row := by simpa using hx
          exact hrow)
      rw [csvT_snoc] at ih
      have hT := rowT_w row
      simp only [List.length_append, List.length_cons, List.length_nil, fieldsW] at ih hw hlt ⊢
      exact ⟨ih.1, by omega, by omega⟩
theorem rdAll_bad : ∀ (n : Nat) (l : List UInt8) (out : List (List (List UInt8))) (a b : Nat), rdAll n l out = .inr (a, b) → a ≤ out.length + l.length ∧ b ≤ l.length
  | 0, l, out, a, b, h => by cases h
  | n + 1, [], out, a, b, h => by rw [rdAll] at h; cases h
  | n + 1, c :: t, out, a, b, h => by
    rw [rdAll] at h
    cases hr : rdRow (t.length + 2) (c :: t) [] with
    | inr k =>
      rw [hr] at h
      have := rdRow_col _ _ _ _ hr
      simp only [Sum.inr.injEq, Prod.mk.injEq] at h
      simp only [List.length_nil] at this
      omega
    | inl p =>
      obtain ⟨row, r⟩ := p
      rw [hr] at h
      have hw := rdRow_w _ _ _ _ _ hr
      have hlt := hw.2.2 (by simp)
      have ih := rdAll_bad n r (out ++ [row]) a b h
      simp only [List.length_append, List.length_cons, List.length_nil] at ih hlt ⊢
      omega
end Go.Proofs.Ytekdlkakcclejaa
