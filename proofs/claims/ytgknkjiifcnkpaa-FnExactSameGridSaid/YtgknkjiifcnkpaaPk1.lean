/-
  Rows of fields and their text: plain mathematics.
  The cursor of the draws: what it holds, and that every draw answers something and writes to the cursor alone.
  What spec.Digits answers, at every integer.
  The join of a list of texts: plain mathematics.
  Which lists of bytes are the decimal numeral of an int: plain mathematics.
  The parts of a text at a byte: plain mathematics, and that the library's split gives them.
  A region that draws its order: what its loads need of the world is kept only until a given store comes up.
  A region that draws its order, whose last operations store into cells that it loads: what S says of the world is asked only as long as operation k has not come up; what H says, always.
  Small laws that the walks of this seat share: a string of one byte out of a new slice of one byte.
  Small facts on blocks and strings that many texts share.
  What spec.Digits answers, at every integer: the walk.
  The draws of numbers and of listed texts.
  Decimals and their texts: plain mathematics.
  The laws' own helpers on lists of numbers: equal, their size, their copy, their marks.
  Settings and their text: plain mathematics.
  A whole draw: every draw answers an int.
  The laws' own helpers on lists of numbers: equal, how often, rising.
  What the reference says of a name.
  A text that is turned a little, as the draws do it.
-/
import Derived.Lib.Join
import Derived.Test.YtgknkjiifcnkpaaRows
import Derived.WalkKit
import Derived.ProofKit
import Derived.Outline
import Derived.Lib.Hide
import Derived.Lib.SmallJoins
import Derived.Lib.BufferMore
import Derived.Laws.Bits128
import Derived.Deep.QuietTactic
import Derived.BigQuiet
import Derived.RegionTactic
import Derived.Lib.ItoaLen
import Derived.Lib.ItoaMem
import Derived.Lib.AtoiAll
import Derived.Lib.Split
import Derived.Lib.IndexLaws
import Derived.Lib.SplitLaws
import Derived.Test.YtgknkjiifcnkpaaProg
import Derived.Deep.RegionHeld3
import Derived.OrdersHeld
import Derived.Deep.RegionHeld
import Derived.Laws.IdiomStrings
import Derived.Deep.RegionWith
namespace Go.Proofs.Ytgknkjiifcnkpaa

/-- Whether a byte makes quotes necessary. -/
def spB (c : UInt8) : Bool := c == 44 || c == 34 || c == 10 || c == 13
/-- A field with its quotes doubled. -/
def dblL : List UInt8 → List UInt8
  | [] => []
  | c :: r => if c = 34 then 34 :: 34 :: dblL r else c :: dblL r
/-- A field's text. -/
def csvF (l : List UInt8) : List UInt8 := if l.any spB = true then 34 :: (dblL l ++ [34]) else l
/-- A row's text without its end. -/
def rowT : List (List UInt8) → List UInt8
  | [] => []
  | [a] => csvF a
  | a :: b :: r => csvF a ++ 44 :: rowT (b :: r)
/-- The text of rows. -/
def csvT : List (List (List UInt8)) → List UInt8
  | [] => []
  | r :: t => rowT r ++ 10 :: csvT t

theorem dblL_append (a b : List UInt8) : dblL (a ++ b) = dblL a ++ dblL b := by
  induction a with
  | nil => rfl
  | cons c r ih =>
    rw [List.cons_append, dblL, dblL, ih]
    split <;> simp
theorem dblL_len (l : List UInt8) : (dblL l).length ≤ 2 * l.length := by
  induction l with
  | nil => simp [dblL]
  | cons c r ih =>
    rw [dblL]
    split <;> simp only [List.length_cons] <;> omega
theorem csvF_len (l : List UInt8) : (csvF l).length ≤ 2 * l.length + 2 := by
  have := dblL_len l
  unfold csvF
  split
  · simp only [List.length_cons, List.length_append, List.length_nil]; omega
  · omega
theorem rowT_snoc (r : List (List UInt8)) (f : List UInt8) : rowT (r ++ [f]) = if r = [] then csvF f else rowT r ++ 44 :: csvF f := by
  induction r with
  | nil => simp [rowT]
  | cons a t ih =>
    rw [if_neg (by simp)]
    cases t with
    | nil => simp [rowT]
    | cons b u =>
      rw [if_neg (by simp)] at ih
      show rowT (a :: b :: (u ++ [f])) = _
      rw [rowT, show b :: (u ++ [f]) = (b :: u) ++ [f] from rfl, ih, rowT]
      simp
theorem csvT_append (a b : List (List (List UInt8))) : csvT (a ++ b) = csvT a ++ csvT b := by
  induction a with
  | nil => rfl
  | cons r t ih => rw [List.cons_append, csvT, csvT, ih]; simp
theorem csvT_snoc (a : List (List (List UInt8))) (r : List (List UInt8)) : csvT (a ++ [r]) = csvT a ++ (rowT r ++ [10]) := by
  rw [csvT_append]; rfl

/-- A quoted field, behind its first quote: what it holds, and what is left. -/
def rdQ : List UInt8 → Option (List UInt8 × List UInt8)
  | [] => none
  | [c] => if c = 34 then some ([], []) else none
  | c :: d :: t => if c = 34 then (if d = 34 then (rdQ t).map fun p => (34 :: p.1, p.2) else some ([], d :: t)) else (rdQ (d :: t)).map fun p => (c :: p.1, p.2)
/-- A field without quotes. -/
def rdU : List UInt8 → Option (List UInt8 × List UInt8)
  | [] => some ([], [])
  | c :: r => if c = 44 ∨ c = 10 ∨ c = 13 then some ([], c :: r) else if c = 34 then none else (rdU r).map fun p => (c :: p.1, p.2)
/-- A field. -/
def rdF : List UInt8 → Option (List UInt8 × List UInt8)
  | [] => some ([], [])
  | c :: r => if c = 34 then rdQ r else rdU (c :: r)
/-- The rest of a row: its fields and what is left, or the place of the fault. -/
def rdRow : Nat → List UInt8 → List (List UInt8) → (List (List UInt8) × List UInt8) ⊕ Nat
  | 0, _, row => .inr row.length
  | n + 1, l, row =>
    match rdF l with
    | none => .inr row.length
    | some (f, []) => .inl (row ++ [f], [])
    | some (f, c :: r) =>
      if c = 44 then rdRow n r (row ++ [f])
      else if c = 10 then .inl (row ++ [f], r)
      else if c = 13 ∧ r.head? = some 10 then .inl (row ++ [f], r.tail)
      else .inr row.length
/-- The rows, or the place of the fault. -/
def rdAll : Nat → List UInt8 → List (List (List UInt8)) → List (List (List UInt8)) ⊕ (Nat × Nat)
  | 0, _, out => .inl out
  | n + 1, l, out =>
    match l with
    | [] => .inl out
    | c :: t =>
      match rdRow (t.length + 2) (c :: t) [] with
      | .inr k => .inr (out.length, k)
      | .inl (row, r) => rdAll n r (out ++ [row])
/-- The rows of a text, or the place of the fault. -/
def rdCsv (l : List UInt8) : List (List (List UInt8)) ⊕ (Nat × Nat) := rdAll (l.length + 1) l []

theorem rdQ_plain {c : UInt8} (h : c ≠ 34) (r : List UInt8) : rdQ (c :: r) = (rdQ r).map fun p => (c :: p.1, p.2) := by
  cases r with
  | nil => simp [rdQ, h]
  | cons d t => rw [rdQ, if_neg h]
theorem rdQ_two (r : List UInt8) : rdQ (34 :: 34 :: r) = (rdQ r).map fun p => (34 :: p.1, p.2) := by
  rw [rdQ, if_pos rfl, if_pos rfl]
theorem rdQ_end {r : List UInt8} (h : r.head? ≠ some 34) : rdQ (34 :: r) = some ([], r) := by
  cases r with
  | nil => simp [rdQ]
  | cons d t =>
    have hd : d ≠ 34 := by intro e; apply h; rw [e]; rfl
    rw [rdQ, if_pos rfl, if_neg hd]
theorem rdQ_dbl (f : List UInt8) {r : List UInt8} (h : r.head? ≠ some 34) : rdQ (dblL f ++ 34 :: r) = some (f, r) := by
  induction f with
  | nil => exact rdQ_end h
  | cons c t ih =>
    by_cases hc : c = 34
    · subst hc
      rw [dblL, if_pos rfl, List.cons_append, List.cons_append, rdQ_two, ih]
      rfl
    · rw [dblL, if_neg hc, List.cons_append, rdQ_plain hc, ih]
      rfl
theorem rdU_plain (f : List UInt8) {r : List UInt8} (hf : f.any spB = false) (h : r = [] ∨ ∃ c t, r = c :: t ∧ (c = 44 ∨ c = 10 ∨ c = 13)) : rdU (f ++ r) = some (f, r) := by
  induction f with
  | nil =>
    rcases h with rfl | ⟨c, t, rfl, hc⟩
    · rfl
    · rw [List.nil_append, rdU, if_pos hc]
  | cons c t ih =>
    simp only [List.any_cons, Bool.or_eq_false_iff] at hf
    have hc := hf.1
    simp only [spB, Bool.or_eq_false_iff, beq_eq_false_iff_ne] at hc
    rw [List.cons_append, rdU, if_neg (by simp [hc]), if_neg hc.1.1.2, ih hf.2]
    rfl
theorem rdF_csvF (f : List UInt8) {r : List UInt8} (h : r = [] ∨ ∃ c t, r = c :: t ∧ (c = 44 ∨ c = 10 ∨ c = 13)) : rdF (csvF f ++ r) = some (f, r) := by
  have hq : r.head? ≠ some 34 := by
    rcases h with rfl | ⟨c, t, rfl, hc⟩
    · simp
    · intro e
      have : c = 34 := by simpa using e
      subst this
      revert hc
      decide
  by_cases hf : f.any spB = true
  · rw [csvF, if_pos hf, List.cons_append, rdF, if_pos rfl, List.append_assoc]
    exact rdQ_dbl f hq
  · have hf' : f.any spB = false := by simpa using hf
    rw [csvF, if_neg hf]
    have := rdU_plain f hf' h
    cases f with
    | nil =>
      rcases h with rfl | ⟨c, t, rfl, hc⟩
      · rfl
      · rw [List.nil_append, rdF, if_neg (by intro e; subst e; revert hc; decide)]
        exact this
    | cons c t =>
      have hc : c ≠ 34 := by
        intro e
        subst e
        simp [spB] at hf'
      rw [List.cons_append, rdF, if_neg hc]
      exact this
theorem rdRow_rowT : ∀ (row : List (List UInt8)) (n : Nat) (t : List UInt8) (acc : List (List UInt8)), row ≠ [] → row.length ≤ n → rdRow n (rowT row ++ 10 :: t) acc = .inl (acc ++ row, t)
  | [], _, _, _, h, _ => absurd rfl h
  | [a], n, t, acc, _, hn => by
    obtain ⟨m, rfl⟩ : ∃ m, n = m + 1 := ⟨n - 1, by simp at hn; omega⟩
    rw [rowT, rdRow, rdF_csvF a (Or.inr ⟨10, t, rfl, by decide⟩)]
    simp
  | a :: b :: r, n, t, acc, _, hn => by
    obtain ⟨m, rfl⟩ : ∃ m, n = m + 1 := ⟨n - 1, by simp at hn; omega⟩
    rw [rowT, rdRow, List.append_assoc, List.cons_append, rdF_csvF a (Or.inr ⟨44, _, rfl, by decide⟩)]
    have ih := rdRow_rowT (b :: r) m t (acc ++ [a]) (by simp) (by simp at hn ⊢; omega)
    simp only [if_true]
    rw [ih]
    simp
theorem rowT_len (row : List (List UInt8)) : row.length ≤ (rowT row).length + 1 := by
  match row with
  | [] => simp
  | [a] => simp
  | a :: b :: r =>
    have := rowT_len (b :: r)
    rw [rowT]
    simp only [List.length_cons, List.length_append] at this ⊢
    omega
theorem rdAll_csvT : ∀ (rows : List (List (List UInt8))) (n : Nat) (out : List (List (List UInt8))), (∀ r ∈ rows, r ≠ []) → rows.length < n → rdAll n (csvT rows) out = .inl (out ++ rows)
  | [], n, out, _, hn => by
    obtain ⟨m, rfl⟩ : ∃ m, n = m + 1 := ⟨n - 1, by simp at hn; omega⟩
    rw [csvT, rdAll, List.append_nil]
  | r :: t, n, out, hr, hn => by
    obtain ⟨m, rfl⟩ : ∃ m, n = m + 1 := ⟨n - 1, by simp at hn; omega⟩
    have ih := rdAll_csvT t m (out ++ [r]) (fun x hx => hr x (by simp [hx])) (by simp at hn; omega)
    have hl := rowT_len r
    have hne := hr r (by simp)
    have hstep := fun k hk => rdRow_rowT r k (csvT t) [] hne hk
    have hlen : (rowT r ++ 10 :: csvT t).length = (rowT r).length + (csvT t).length + 1 := by simp; omega
    rw [csvT]
    generalize hg : rowT r ++ 10 :: csvT t = g at hstep hlen
    match g with
    | [] => simp at hlen
    | c :: u =>
      rw [rdAll, hstep (u.length + 2) (by simp at hlen; omega)]
      show rdAll m (csvT t) (out ++ [[] ++ r]) = _
      rw [List.nil_append, ih]
      simp
/-- ROWS ARE READ AS THEY ARE WRITTEN. -/
theorem rd_csvT {rows : List (List (List UInt8))} (h : ∀ r ∈ rows, r ≠ []) : rdCsv (csvT rows) = .inl rows := by
  have hl : ∀ rows : List (List (List UInt8)), rows.length ≤ (csvT rows).length := by
    intro rows
    induction rows with
    | nil => simp
    | cons r t ih => rw [csvT]; simp only [List.length_cons, List.length_append]; omega
  rw [rdCsv, rdAll_csvT rows _ [] h (by have := hl rows; omega)]
  rfl

/-- What a quoted field holds is shorter than what it was. -/
theorem rdQ_len : ∀ {l f r : List UInt8}, rdQ l = some (f, r) → f.length + r.length + 1 ≤ l.length
  | [], f, r, h => by simp [rdQ] at h
  | [c], f, r, h => by
    rw [rdQ] at h
    split at h
    · simp only [Option.some.injEq, Prod.mk.injEq] at h
      obtain ⟨rfl, rfl⟩ := h
      simp
    · cases h
  | c :: d :: t, f, r, h => by
    rw [rdQ] at h
    split at h
    · split at h
      · obtain ⟨⟨x, y⟩, hp, he⟩ := Option.map_eq_some_iff.mp h
        have := rdQ_len hp
        simp only [Prod.mk.injEq] at he
        obtain ⟨rfl, rfl⟩ := he
        simp only [List.length_cons]
        omega
      · simp only [Option.some.injEq, Prod.mk.injEq] at h
        obtain ⟨rfl, rfl⟩ := h
        simp
    · obtain ⟨⟨x, y⟩, hp, he⟩ := Option.map_eq_some_iff.mp h
      have := rdQ_len hp
      simp only [Prod.mk.injEq] at he
      obtain ⟨rfl, rfl⟩ := he
      simp only [List.length_cons] at this ⊢
      omega
theorem rdU_len : ∀ {l f r : List UInt8}, rdU l = some (f, r) → f.length + r.length = l.length
  | [], f, r, h => by
    simp only [rdU, Option.some.injEq, Prod.mk.injEq] at h
    obtain ⟨rfl, rfl⟩ := h
    rfl
  | c :: t, f, r, h => by
    rw [rdU] at h
    split at h
    · simp only [Option.some.injEq, Prod.mk.injEq] at h
      obtain ⟨rfl, rfl⟩ := h
      simp
    · split at h
      · cases h
      · obtain ⟨⟨x, y⟩, hp, he⟩ := Option.map_eq_some_iff.mp h
        have := rdU_len hp
        simp only [Prod.mk.injEq] at he
        obtain ⟨rfl, rfl⟩ := he
        simp only [List.length_cons]
        omega
theorem rdF_len {l f r : List UInt8} (h : rdF l = some (f, r)) : f.length + r.length ≤ l.length := by
  cases l with
  | nil =>
    simp only [rdF, Option.some.injEq, Prod.mk.injEq] at h
    obtain ⟨rfl, rfl⟩ := h
    simp
  | cons c t =>
    rw [rdF] at h
    split at h
    · have := rdQ_len h
      simp only [List.length_cons]
      omega
    · have := rdU_len h
      omega
/-- How long the text of a field and of what stands around it may be. -/
def fieldsW : List (List UInt8) → Nat
  | [] => 0
  | f :: r => 2 * f.length + 3 + fieldsW r
theorem fieldsW_append (a b : List (List UInt8)) : fieldsW (a ++ b) = fieldsW a + fieldsW b := by
  induction a with
  | nil => simp [fieldsW]
  | cons f r ih => rw [List.cons_append, fieldsW, fieldsW, ih]; omega
theorem rowT_w : ∀ row : List (List UInt8), (rowT row).length + 1 ≤ fieldsW row + 1
  | [] => by simp [rowT]
  | [a] => by have := csvF_len a; rw [rowT, fieldsW]; omega
  | a :: b :: r => by
    have := csvF_len a
    have ih := rowT_w (b :: r)
    rw [rowT, fieldsW]
    simp only [List.length_append, List.length_cons]
    omega
/-- A row that is read: it is not empty, and it took its bytes from the text. -/
theorem rdRow_w : ∀ (n : Nat) (l : List UInt8) (acc row : List (List UInt8)) (r : List UInt8), rdRow n l acc = .inl (row, r) → acc.length < row.length ∧ fieldsW row + 5 * r.length ≤ fieldsW acc + 5 * l.length + 3 ∧ (l ≠ [] → r.length < l.length)
  | 0, l, acc, row, r, h => by cases h
  | n + 1, l, acc, row, r, h => by
    rw [rdRow] at h
    cases hf : rdF l with
    | none => rw [hf] at h; cases h
    | some p =>
      obtain ⟨f, t⟩ := p
      rw [hf] at h
      have hl := rdF_len hf
      cases t with
      | nil =>
        simp only [Sum.inl.injEq, Prod.mk.injEq] at h
        obtain ⟨rfl, rfl⟩ := h
        rw [fieldsW_append]
        simp only [fieldsW, List.length_append, List.length_cons, List.length_nil]
        refine ⟨by omega, by simp at hl; omega, fun hne => ?_⟩
        have := List.length_pos_iff.mpr hne
        omega
      | cons c u =>
        simp only [List.length_cons] at hl
        simp only at h
        split at h
        · have ih := rdRow_w n u (acc ++ [f]) row r h
          rw [fieldsW_append] at ih
          simp only [fieldsW, List.length_append, List.length_cons, List.length_nil] at ih
          refine ⟨by omega, by omega, fun _ => ?_⟩
          by_cases hu : u = []
          · subst hu
            have : rdRow n [] (acc ++ [f]) = .inl (row, r) := h
            cases n with
            | zero => cases this
            | succ m =>
              rw [rdRow] at this
              simp only [rdF, Sum.inl.injEq, Prod.mk.injEq] at this
              rw [← this.2]
              simp
              omega
          · have := ih.2.2 hu
            omega
        · split at h
          · simp only [Sum.inl.injEq, Prod.mk.injEq] at h
            obtain ⟨rfl, rfl⟩ := h
            rw [fieldsW_append]
            simp only [fieldsW, List.length_append, List.length_cons, List.length_nil]
            exact ⟨by omega, by omega, fun _ => by omega⟩
          · split at h
            · simp only [Sum.inl.injEq, Prod.mk.injEq] at h
              obtain ⟨rfl, rfl⟩ := h
              rw [fieldsW_append]
              simp only [fieldsW, List.length_append, List.length_cons, List.length_nil, List.length_tail]
              exact ⟨by omega, by omega, fun _ => by omega⟩
            · cases h
theorem rdRow_col : ∀ (n : Nat) (l : List UInt8) (acc : List (List UInt8)) (k : Nat), rdRow n l acc = .inr k → k ≤ acc.length + l.length
  | 0, l, acc, k, h => by
    have : acc.length = k := by simpa [rdRow] using h
    omega
  | n + 1, l, acc, k, h => by
    rw [rdRow] at h
    cases hf : rdF l with
    | none =>
      rw [hf] at h
      have : acc.length = k := by simpa using h
      omega
    | some p =>
      obtain ⟨f, t⟩ := p
      rw [hf] at h
      have hl := rdF_len hf
      cases t with
      | nil => cases h
      | cons c u =>
        simp only [List.length_cons] at hl
        simp only at h
        split at h
        · have ih := rdRow_col n u (acc ++ [f]) k h
          simp only [List.length_append, List.length_cons, List.length_nil] at ih
          omega
        · split at h
          · cases h
          · split at h
            · cases h
            · have : acc.length = k := by simpa using h
              omega
/-- What is read of a text: rows that are not empty, whose text is not much longer; or a fault in the text's bounds. -/
theorem rdAll_w : ∀ (n : Nat) (l : List UInt8) (out rows : List (List (List UInt8))), l.length < n → rdAll n l out = .inl rows → (∀ r ∈ out, r ≠ []) → (∀ r ∈ rows, r ≠ []) ∧ (csvT rows).length ≤ (csvT out).length + 9 * l.length ∧ rows.length ≤ out.length + l.length
  | 0, l, out, rows, hn, h, ho => by omega
  | n + 1, [], out, rows, hn, h, ho => by
    rw [rdAll] at h
    obtain rfl : out = rows := by simpa using h
    exact ⟨ho, by omega, by omega⟩
  | n + 1, c :: t, out, rows, hn, h, ho => by
    rw [rdAll] at h
    cases hr : rdRow (t.length + 2) (c :: t) [] with
    | inr k => rw [hr] at h; cases h
    | inl p =>
      obtain ⟨row, r⟩ := p
      rw [hr] at h
      have hw := rdRow_w _ _ _ _ _ hr
      have hlt := hw.2.2 (by simp)
      have hrow : row ≠ [] := by
        intro e
        rw [e] at hw
        simp at hw
      have ih := rdAll_w n r (out ++ [row]) rows (by simp only [List.length_cons] at hlt hn; omega) h (by
        intro x hx
        rcases List.mem_append.mp hx with hx | hx
        · exact ho x hx
        · obtain rfl : x = row := by simpa using hx
          exact hrow)
      rw [csvT_snoc] at ih
      have hT := rowT_w row
      simp only [List.length_append, List.length_cons, List.length_nil, fieldsW] at ih hw hlt ⊢
      exact ⟨ih.1, by omega, by omega⟩
theorem rdAll_bad : ∀ (n : Nat) (l : List UInt8) (out : List (List (List UInt8))) (a b : Nat), rdAll n l out = .inr (a, b) → a ≤ out.length + l.length ∧ b ≤ l.length
  | 0, l, out, a, b, h => by cases h
  | n + 1, [], out, a, b, h => by rw [rdAll] at h; cases h
  | n + 1, c :: t, out, a, b, h => by
    rw [rdAll] at h
    cases hr : rdRow (t.length + 2) (c :: t) [] with
    | inr k =>
      rw [hr] at h
      have := rdRow_col _ _ _ _ hr
      simp only [Sum.inr.injEq, Prod.mk.injEq] at h
      simp only [List.length_nil] at this
      omega
    | inl p =>
      obtain ⟨row, r⟩ := p
      rw [hr] at h
      have hw := rdRow_w _ _ _ _ _ hr
      have hlt := hw.2.2 (by simp)
      have ih := rdAll_bad n r (out ++ [row]) a b h
      simp only [List.length_append, List.length_cons, List.length_nil] at ih hlt ⊢
      omega
end Go.Proofs.Ytgknkjiifcnkpaa
namespace Go.Proofs.Ytgknkjiifcnkpaa
open Go.RowKit

theorem i64_and255 (n : Int) : bits .and .i64 n 255 = n % 256 := by
  have h127 : (BitVec.ofInt 64 255).toNat = 2 ^ 8 - 1 := by decide
  have key : (BitVec.ofInt 64 n &&& BitVec.ofInt 64 255).toNat = (n % ((2 ^ 64 : Nat) : Int)).toNat % 2 ^ 8 := by
    rw [BitVec.toNat_and, BitVec.toNat_ofInt, h127, Nat.and_two_pow_sub_one_eq_mod]
  show IntKind.i64.wrap ((BitVec.ofInt 64 n &&& BitVec.ofInt 64 255).toNat : Nat) = n % 256
  rw [key, IntKind.wrap_i64]
  omega

/-- v is a slice of n bytes in the world W. -/
def Bytes (W : World) (v : Value) (n : Nat) : Prop :=
  (∃ c, v = .slice none 0 c ∧ n = 0) ∨ (∃ a c, v = .slice (some a) 0 c ∧ n = 0) ∨ ∃ b off c, v = .slice (some ⟨b, off, none⟩) n c ∧ n ≤ 140737488355328 ∧ ∀ j, j < n → b < W.heap.size ∧ ∃ z : Int, 0 ≤ z ∧ z ≤ 255 ∧ W.cell? ⟨b, off + j, none⟩ = some (.int .u8 z)

/-- Block p is a cursor over bytes of W, made behind W. -/
def Cur (W w : World) (p : Nat) : Prop :=
  W.heap.size ≤ p ∧ Below W.heap.size W w ∧ ∃ (v : Value) (n : Nat) (i : Nat) (h : Int), Bytes W v n ∧ i ≤ n ∧ -9223372036854775808 ≤ h ∧ h ≤ 9223372036854775807 ∧
    w.heap[p]? = some (.cells #[v, .int .i64 i, .int .i64 h] 80 (0, 0))

def ByteOut (e : Ending) : Prop := ∃ n : Nat, n < 256 ∧ e = .returned (.int .i64 n)

theorem cell_blk {w : World} {p : Nat} {cs : Array Value} {T : TypeId} {fr : Nat × Nat} (h : w.heap[p]? = some (.cells cs T fr)) (k : Nat) : w.cell? ⟨p, k, none⟩ = cs[k]? := by
  simp [World.cell?, h]
theorem free_blk {w : World} {p : Nat} {cs : Array Value} {T : TypeId} (h : w.heap[p]? = some (.cells cs T (0, 0))) (k : Nat) : w.frozen? ⟨p, k, none⟩ = false := by
  simp [World.frozen?, h]

theorem byteOut_mod (E : Int) : ByteOut (.returned (.int .i64 (E % 256))) := ⟨(E % 256).toNat, by omega, by rw [Int.toNat_of_nonneg (by omega)]⟩

/-- What a draw does to the world: it writes to the cursor alone. -/
def ByteW (w : World) (p : Nat) (v : Value) (i : Nat) (w' : World) : Prop :=
  (∃ h : Int, -9223372036854775808 ≤ h ∧ h ≤ 9223372036854775807 ∧ w'.heap[p]? = some (.cells #[v, .int .i64 i, .int .i64 h] 80 (0, 0))) ∧ w.grownBy w' (some p)

theorem wrap64_bounds (x : Int) : -9223372036854775808 ≤ wrap64 x ∧ wrap64 x ≤ 9223372036854775807 := by unfold wrap64; omega

theorem grownBy_refl (w : World) (r : Option Nat) : w.grownBy w r := ⟨rfl, rfl, rfl, Nat.le_refl _, fun _ _ _ => rfl⟩
theorem grownBy_trans {a b c : World} {r : Option Nat} (h : a.grownBy b r) (k : b.grownBy c r) : a.grownBy c r :=
  ⟨k.os.trans h.os, k.tape.trans h.tape, k.output.trans h.output, Nat.le_trans h.size k.size, fun i hi hr => (k.block i (Nat.lt_of_lt_of_le hi h.size) hr).trans (h.block i hi hr)⟩
theorem grownBy_set (w : World) (p k : Nat) (x : Value) : w.grownBy (w.setCell ⟨p, k, none⟩ x) (some p) :=
  ⟨rfl, rfl, rfl, by simp [World.setCell], fun i _ hr => Below.heap_setCell _ _ _ _ (fun e => hr (by rw [e]))⟩
theorem grownBy_drewN {a w : World} {r : Option Nat} (h : a.grownBy w r) (n : Nat) : a.grownBy (w.drewN n) r := ⟨h.os, h.tape, h.output, h.size, h.block⟩

theorem byteW_first {w : World} {p i : Nat} {v : Value} {h : Int} (hblk : w.heap[p]? = some (.cells #[v, .int .i64 i, .int .i64 h] 80 (0, 0))) (x : Int) :
    ByteW w p v i (w.setCell ⟨p, 2, none⟩ (.int .i64 (wrap64 x))) := by
  refine ⟨⟨wrap64 x, (wrap64_bounds x).1, (wrap64_bounds x).2, ?_⟩, grownBy_set _ _ _ _⟩
  rw [Go.Joins.block_setCell hblk]
  rfl
theorem ByteW.drewN {w w' : World} {p i : Nat} {v : Value} (h : ByteW w p v i w') (k : Nat) : ByteW w p v i (w'.drewN k) := ⟨h.1, grownBy_drewN h.2 k⟩
theorem ByteW.inc {w w' : World} {p i : Nat} {v : Value} (h : ByteW w p v i w') : ByteW w p v (i + 1) (w'.setCell ⟨p, 1, none⟩ (.int .i64 ((i : Int) + 1))) := by
  obtain ⟨⟨x, h0, h1, hb⟩, hg⟩ := h
  refine ⟨⟨x, h0, h1, ?_⟩, grownBy_trans hg (grownBy_set _ _ _ _)⟩
  rw [Go.Joins.block_setCell hb]
  rfl

set_option maxRecDepth 100000 in
set_option maxHeartbeats 1000000 in
theorem l1Byte_end (w : World) (p : Nat) (v : Value) (n : Nat) (h : Int) (hv : (∃ c, v = .slice none n c) ∨ ∃ a c, v = .slice (some a) n c) (hblk : w.heap[p]? = some (.cells #[v, .int .i64 n, .int .i64 h] 80 (0, 0))) :
    Calls Try.prog 80 #[.pointer (some ⟨p, 0, none⟩)] w fun e w' => ByteOut e ∧ ByteW w p v n w' := by
  have hc0 : w.cell? ⟨p, 0, none⟩ = some v := cell_blk hblk 0
  have hc1 : w.cell? ⟨p, 1, none⟩ = some (.int .i64 n) := cell_blk hblk 1
  have hc2 : w.cell? ⟨p, 2, none⟩ = some (.int .i64 h) := cell_blk hblk 2
  have hf1 := free_blk hblk 1
  have hf2 := free_blk hblk 2
  have ka := i64_and255
  have HB := Lib.hid (byteW_first hblk (wrap64 (h * 6364136223846793005) + 1442695040888963407))
  clear hblk
  rcases hv with ⟨c, rfl⟩ | ⟨a, c, rfl⟩
  all_goals
    go_enter Try.func80, Try.ntmps80
    go_wp2_with fail
    go_quiet (fail)
    go_wp2_with fail
    go_quiet (fail)
    go_wp2_with fail
    go_ret
    exact ⟨byteOut_mod _, (HB.out.drewN _).drewN _⟩

set_option maxRecDepth 100000 in
set_option maxHeartbeats 1000000 in
theorem l1Byte_more (w : World) (p b off c : Nat) (n i : Nat) (z h : Int) (hi : i < n) (hn : n ≤ 140737488355328) (hz0 : 0 ≤ z) (hz1 : z ≤ 255) (hbp : ¬ b = p) (hcz : w.cell? ⟨b, off + i, none⟩ = some (.int .u8 z))
    (hblk : w.heap[p]? = some (.cells #[.slice (some ⟨b, off, none⟩) n c, .int .i64 i, .int .i64 h] 80 (0, 0))) :
    Calls Try.prog 80 #[.pointer (some ⟨p, 0, none⟩)] w fun e w' => ByteOut e ∧ ByteW w p (.slice (some ⟨b, off, none⟩) n c) (i + 1) w' := by
  have hc0 : w.cell? ⟨p, 0, none⟩ = some (.slice (some ⟨b, off, none⟩) n c) := cell_blk hblk 0
  have hc1 : w.cell? ⟨p, 1, none⟩ = some (.int .i64 i) := cell_blk hblk 1
  have hc2 : w.cell? ⟨p, 2, none⟩ = some (.int .i64 h) := cell_blk hblk 2
  have hf1 := free_blk hblk 1
  have hf2 := free_blk hblk 2
  have ka := i64_and255
  have hi1 : (i : Int) < n := by omega
  have hi0 : (0 : Int) ≤ i := by omega
  have HB := Lib.hid (byteW_first hblk (wrap64 (h * 6364136223846793005) + 1442695040888963407))
  clear hblk
  go_enter Try.func80, Try.ntmps80
  go_wp2_with fail
  go_quiet (fail)
  go_wp2_with fail
  go_quiet (fail)
  go_wp2_with fail
  go_quiet (fail)
  go_wp2_with fail
  go_ret
  exact ⟨byteOut_mod _, (HB.out.drewN _).inc⟩
/-- ONE BYTE OF A DRAW. -/
theorem l1Byte (W w : World) (p : Nat) (hc : Cur W w p) :
    Calls Try.prog 80 #[.pointer (some ⟨p, 0, none⟩)] w fun e w' => ByteOut e ∧ Cur W w' p ∧ w.grownBy w' (some p) := by
  obtain ⟨hp, hB, v, n, i, h, hbytes, hin, h0, h1, hblk⟩ := hc
  have fin : ∀ (j : Nat) (w' : World), j ≤ n → ByteW w p v j w' → Cur W w' p ∧ w.grownBy w' (some p) := fun j w' hj hw => by
    obtain ⟨⟨x, a, b, hx⟩, hg⟩ := hw
    exact ⟨⟨hp, hB.grown hg (hB.size) (fun k hk => by obtain rfl := Option.some.inj hk; exact hp), v, n, j, x, hbytes, hj, a, b, hx⟩, hg⟩
  by_cases hlt : i < n
  · rcases hbytes with ⟨c, rfl, rfl⟩ | ⟨a, c, rfl, rfl⟩ | ⟨b, off, c, rfl, hn, hcell⟩
    · omega
    · omega
    · obtain ⟨hb, z, z0, z1, hz⟩ := hcell i hlt
      have hz' : w.cell? ⟨b, off + i, none⟩ = some (.int .u8 z) := (hB.cell (p := ⟨b, off + i, none⟩) hb).trans hz
      exact (l1Byte_more w p b off c n i z h hlt hn z0 z1 (by omega) hz' hblk).mono fun e w' ⟨he, hw⟩ => ⟨he, fin _ _ (by omega) hw⟩
  · obtain rfl : i = n := by omega
    refine (l1Byte_end w p v i h ?_ hblk).mono fun e w' ⟨he, hw⟩ => ⟨he, fin _ _ (Nat.le_refl _) hw⟩
    rcases hbytes with ⟨c, rfl, rfl⟩ | ⟨a, c, rfl, rfl⟩ | ⟨b, off, c, rfl, _⟩
    · exact Or.inl ⟨c, rfl⟩
    · exact Or.inr ⟨a, c, rfl⟩
    · exact Or.inr ⟨_, c, rfl⟩
end Go.Proofs.Ytgknkjiifcnkpaa
namespace Go.Proofs.Ytgknkjiifcnkpaa
open Go.RowKit

/-- What the loop has written (o) and what is left of u (v). -/
def DigInv (u v : Nat) (o : List UInt8) : Prop := (v = 0 ∧ u ≠ 0 ∧ o = Lib.decDigits u) ∨ (v ≠ 0 ∧ Lib.decDigits u = Lib.decDigits v ++ o)

theorem digInv_start {u : Nat} (h : u ≠ 0) : DigInv u u [] := Or.inr ⟨h, by simp⟩

theorem digInv_step {u v : Nat} {o : List UInt8} (h : DigInv u v o) (hv : v ≠ 0) : DigInv u (v / 10) (UInt8.ofNat (48 + v % 10) :: o) := by
  rcases h with ⟨h0, _, _⟩ | ⟨_, h⟩
  · exact absurd h0 hv
  · by_cases hs : v < 10
    · have hu : u ≠ 0 := by
        rintro rfl
        rw [Lib.decDigits_one (by omega : 0 < 10), Lib.decDigits_one hs] at h
        have hl := congrArg List.length h
        simp at hl
        subst hl
        simp at h
        have := congrArg UInt8.toNat h
        simp at this
        omega
      refine Or.inl ⟨by omega, hu, ?_⟩
      rw [h, Lib.decDigits_one hs, Nat.mod_eq_of_lt hs]
      rfl
    · refine Or.inr ⟨by omega, ?_⟩
      rw [h, Lib.decDigits, dif_neg hs]
      simp

theorem digInv_len {u v : Nat} {o : List UInt8} (h : DigInv u v o) : o.length ≤ (Lib.decDigits u).length := by
  rcases h with ⟨_, _, rfl⟩ | ⟨_, h⟩
  · exact Nat.le_refl _
  · rw [h]; simp

theorem decDigits_len {u : Nat} (h : u ≤ 9223372036854775808) : (Lib.decDigits u).length ≤ 22 := by
  by_cases h1 : u ≤ 9223372036854775807
  · have := Lib.itoa_length_le u (by omega) (by omega)
    rw [Lib.itoa_nonneg] at this
    omega
  · obtain rfl : u = 9223372036854775808 := by omega
    have := Lib.itoa_length_le (-(9223372036854775808 : Nat)) (by omega) (by omega)
    rw [Lib.itoa_neg _ (by omega)] at this
    simp at this ⊢
    omega
end Go.Proofs.Ytgknkjiifcnkpaa
namespace Go.Proofs.Ytgknkjiifcnkpaa

def lensum (ps : List (List UInt8)) : Nat := (ps.map List.length).sum

theorem lensum_take_succ {ps : List (List UInt8)} {k : Nat} {p : List UInt8} (h : ps[k]? = some p) : lensum (ps.take (k + 1)) = lensum (ps.take k) + p.length := by
  unfold lensum
  rw [List.take_add_one, h]
  simp
theorem lensum_take_le (ps : List (List UInt8)) (k : Nat) : lensum (ps.take k) ≤ lensum ps := by
  have e : lensum ps = lensum (ps.take k) + lensum (ps.drop k) := by
    unfold lensum
    conv => lhs; rw [← List.take_append_drop k ps]
    rw [List.map_append, List.sum_append]
  omega

theorem joinTail_len (sep : List UInt8) : ∀ (r : List (List UInt8)), (Lib.joinTail sep r).length = r.length * sep.length + lensum r
  | [] => by simp [Lib.joinTail, lensum]
  | x :: r => by
    have ih := joinTail_len sep r
    unfold Lib.joinTail lensum at ih ⊢
    simp only [List.map_cons, List.flatten_cons, List.length_append, List.sum_cons, List.length_cons, ih, Nat.succ_mul]
    omega

theorem join_len_le (ps : List (List UInt8)) (sep : List UInt8) : (Lib.join ps sep).length ≤ ps.length * sep.length + lensum ps := by
  cases ps with
  | nil => simp [Lib.join_nil]
  | cons p r =>
    rw [Lib.join_cons, List.length_append, joinTail_len]
    have e : lensum (p :: r) = p.length + lensum r := by unfold lensum; rw [List.map_cons, List.sum_cons]
    rw [e, List.length_cons, Nat.succ_mul]
    omega

theorem joinTail_append (sep : List UInt8) (a b : List (List UInt8)) : Lib.joinTail sep (a ++ b) = Lib.joinTail sep a ++ Lib.joinTail sep b := by
  unfold Lib.joinTail
  rw [List.map_append, List.flatten_append]

theorem join_take_one {ps : List (List UInt8)} {p sep : List UInt8} (h : ps[0]? = some p) : Lib.join (ps.take 1) sep = p := by
  cases ps with
  | nil => cases h
  | cons q r =>
    obtain rfl : q = p := by simpa using h
    simp [Lib.join_one]

theorem join_take_succ {ps : List (List UInt8)} {k : Nat} {p sep : List UInt8} (hk : 1 ≤ k) (h : ps[k]? = some p) : Lib.join (ps.take (k + 1)) sep = Lib.join (ps.take k) sep ++ sep ++ p := by
  obtain ⟨j, rfl⟩ : ∃ j, k = j + 1 := ⟨k - 1, by omega⟩
  cases ps with
  | nil => cases h
  | cons q r =>
    rw [List.getElem?_cons_succ] at h
    rw [List.take_succ_cons, List.take_succ_cons, Lib.join_cons, Lib.join_cons, Lib.joinTail_take_succ sep r j p h]
    simp [List.append_assoc]

theorem join_take_le (ps : List (List UInt8)) (sep : List UInt8) (k : Nat) : (Lib.join (ps.take k) sep).length ≤ (Lib.join ps sep).length := by
  cases k with
  | zero => simp [Lib.join_nil]
  | succ j =>
    cases ps with
    | nil => simp
    | cons q r =>
      rw [List.take_succ_cons, Lib.join_cons, Lib.join_cons]
      have e : Lib.joinTail sep r = Lib.joinTail sep (r.take j) ++ Lib.joinTail sep (r.drop j) := by rw [← joinTail_append, List.take_append_drop]
      rw [e]
      simp only [List.length_append]
      omega
end Go.Proofs.Ytgknkjiifcnkpaa
namespace Go.Proofs.Ytgknkjiifcnkpaa

def isDig (c : UInt8) : Prop := 48 ≤ c.toNat ∧ c.toNat ≤ 57
def digStep (a : Nat) (c : UInt8) : Nat := a * 10 + (c.toNat - 48)
def valFrom (acc : Nat) (l : List UInt8) : Nat := l.foldl digStep acc
theorem valFrom_nil (acc : Nat) : valFrom acc [] = acc := List.foldl_nil
theorem valFrom_cons (acc : Nat) (c : UInt8) (r : List UInt8) : valFrom acc (c :: r) = valFrom (acc * 10 + (c.toNat - 48)) r := List.foldl_cons ..

theorem valFrom_append (x y : List UInt8) (acc : Nat) : valFrom acc (x ++ y) = valFrom (valFrom acc x) y := List.foldl_append ..

theorem valFrom_ge (y : List UInt8) : ∀ acc, acc ≤ valFrom acc y := by
  induction y with
  | nil => intro acc; rw [valFrom_nil]; exact Nat.le_refl acc
  | cons c r ih =>
    intro acc
    have h1 := ih (acc * 10 + (c.toNat - 48))
    rw [valFrom_cons]
    generalize c.toNat - 48 = d at h1 ⊢
    exact Nat.le_trans (by omega) h1

theorem dig_toNat {k : Nat} (h : k < 10) : (UInt8.ofNat (48 + k)).toNat = 48 + k := by
  rw [UInt8.toNat_ofNat']; omega

theorem decDigits_dig (u : Nat) : ∀ c ∈ Lib.decDigits u, isDig c := by
  induction u using Nat.strongRecOn with
  | _ u ih =>
    by_cases h : u < 10
    · rw [Lib.decDigits_one h]
      intro c hc
      obtain rfl : c = UInt8.ofNat (48 + u) := by simpa using hc
      unfold isDig; rw [dig_toNat h]; omega
    · rw [Lib.decDigits, dif_neg h]
      intro c hc
      rcases List.mem_append.1 hc with hc | hc
      · exact ih (u / 10) (by omega) c hc
      · obtain rfl : c = UInt8.ofNat (48 + u % 10) := by simpa using hc
        unfold isDig; rw [dig_toNat (by omega)]; omega

theorem valFrom_decDigits (u : Nat) : valFrom 0 (Lib.decDigits u) = u := by
  induction u using Nat.strongRecOn with
  | _ u ih =>
    by_cases h : u < 10
    · rw [Lib.decDigits_one h]
      rw [valFrom_cons, valFrom_nil, dig_toNat h]; omega
    · rw [Lib.decDigits, dif_neg h, valFrom_append, ih (u / 10) (by omega)]
      rw [valFrom_cons, valFrom_nil, dig_toNat (by omega)]; omega

theorem nDigits_le : ∀ (k u : Nat), u < 10 ^ (k + 1) → Lib.nDigits u ≤ k + 1
  | 0, u, h => by rw [Lib.nDigits_small (by simpa using h)]; omega
  | k + 1, u, h => by
    by_cases hs : u < 10
    · rw [Lib.nDigits_small hs]; omega
    · rw [Lib.nDigits_big hs]
      have := nDigits_le k (u / 10) (by rw [Nat.pow_succ] at h; omega)
      omega

theorem decDigits_pos (u : Nat) : 1 ≤ (Lib.decDigits u).length := by rw [Lib.decDigits_length]; exact Lib.nDigits_pos u
theorem decDigits_len19 {u : Nat} (h : u ≤ 9223372036854775808) : (Lib.decDigits u).length ≤ 19 := by
  rw [Lib.decDigits_length]; exact nDigits_le 18 u (by omega)

/-- l is the numeral of the int n. -/
def IsNum (l : List UInt8) (n : Int) : Prop := -9223372036854775808 ≤ n ∧ n ≤ 9223372036854775807 ∧ Lib.itoa n = l

/-- Where the digits begin. -/
def startOf (l : List UInt8) : Nat := if l.head?.map (·.toNat) = some 45 then 1 else 0

theorem decDigits_start (u : Nat) : startOf (Lib.decDigits u) = 0 := by
  unfold startOf
  rw [if_neg]
  intro h
  have hp := decDigits_pos u
  have hd := decDigits_dig u
  generalize Lib.decDigits u = l at h hp hd
  cases l with
  | nil => simp at hp
  | cons c r =>
    have := hd c (by simp)
    unfold isDig at this
    simp at h
    omega

theorem isNum_parts {l : List UInt8} {n : Int} (h : IsNum l n) :
    (∀ c ∈ l.drop (startOf l), isDig c) ∧ 1 ≤ (l.drop (startOf l)).length ∧ valFrom 0 (l.drop (startOf l)) = n.natAbs ∧ (startOf l = if n < 0 then 1 else 0) ∧ 1 ≤ l.length ∧ l.length ≤ 20 := by
  obtain ⟨h0, h1, rfl⟩ := h
  by_cases hn : n < 0
  · obtain ⟨u, hu⟩ : ∃ u : Nat, n = -(u : Int) := ⟨n.natAbs, by omega⟩
    subst hu
    rw [Lib.itoa_neg u (by omega)]
    have hs : startOf (45 :: Lib.decDigits u) = 1 := by unfold startOf; simp
    have hl := decDigits_len19 (u := u) (by omega)
    have hp := decDigits_pos u
    rw [hs]
    refine ⟨by simpa using decDigits_dig u, by simpa using hp, ?_, by rw [if_pos hn], by simp, by simp; omega⟩
    simp [valFrom_decDigits]
  · obtain ⟨u, rfl⟩ := Int.eq_ofNat_of_zero_le (by omega : 0 ≤ n)
    rw [Lib.itoa_nonneg, decDigits_start]
    have hl := decDigits_len19 (u := u) (by omega)
    have hp := decDigits_pos u
    refine ⟨by simpa using decDigits_dig u, by simpa using hp, ?_, by rw [if_neg hn], by omega, by omega⟩
    simp [valFrom_decDigits]

/-- What has been read at index k: only digits, of value v. -/
def ReadTo (l : List UInt8) (k v : Nat) : Prop := startOf l ≤ k ∧ (∀ c ∈ (l.take k).drop (startOf l), isDig c) ∧ valFrom 0 ((l.take k).drop (startOf l)) = v

theorem readTo_start (l : List UInt8) : ReadTo l (startOf l) 0 := by
  refine ⟨Nat.le_refl _, ?_, ?_⟩
  · intro c hc; rw [List.drop_eq_nil_of_le (by simp; omega)] at hc; simp at hc
  · rw [List.drop_eq_nil_of_le (by simp; omega)]; exact valFrom_nil 0

theorem take_drop_succ {l : List UInt8} {k f : Nat} {c : UInt8} (hf : f ≤ k) (hc : l[k]? = some c) : (l.take (k + 1)).drop f = (l.take k).drop f ++ [c] := by
  have hk : k < l.length := by
    rcases Nat.lt_or_ge k l.length with h | h
    · exact h
    · rw [List.getElem?_eq_none h] at hc; cases hc
  rw [List.take_add_one, hc, List.drop_append_of_le_length (by simp; omega)]
  rfl

theorem readTo_step {l : List UInt8} {k v : Nat} {c : UInt8} (h : ReadTo l k v) (hc : l[k]? = some c) (hd : isDig c) : ReadTo l (k + 1) (v * 10 + (c.toNat - 48)) := by
  obtain ⟨h1, h2, h3⟩ := h
  refine ⟨by omega, ?_, ?_⟩
  · rw [take_drop_succ h1 hc]
    intro x hx
    rcases List.mem_append.1 hx with hx | hx
    · exact h2 x hx
    · obtain rfl : x = c := by simpa using hx
      exact hd
  · rw [take_drop_succ h1 hc, valFrom_append, h3, valFrom_cons, valFrom_nil]

theorem mem_drop_at {l : List UInt8} {k f : Nat} {c : UInt8} (hf : f ≤ k) (hc : l[k]? = some c) : c ∈ l.drop f :=
  List.mem_of_getElem? (i := k - f) (by rw [List.getElem?_drop]; rw [show f + (k - f) = k by omega]; exact hc)

/-- A byte that is no digit. -/
theorem notNum_byte {l : List UInt8} {k v : Nat} {c : UInt8} (h : ReadTo l k v) (hc : l[k]? = some c) (hd : ¬ isDig c) : ∀ n, ¬ IsNum l n :=
  fun _ hn => hd ((isNum_parts hn).1 c (mem_drop_at h.1 hc))

/-- Too great. -/
theorem notNum_big {l : List UInt8} {k v : Nat} (h : ReadTo l k v) (hv : 9223372036854775808 < v) : ∀ n, ¬ IsNum l n := by
  intro n hn
  have hp := (isNum_parts hn).2.2.1
  have e : l.drop (startOf l) = (l.take k).drop (startOf l) ++ l.drop k := by
    have hf := h.1
    generalize startOf l = f at hf
    by_cases hk : k ≤ l.length
    · have := List.drop_append_of_le_length (l₂ := l.drop k) (show f ≤ (l.take k).length by simp; omega)
      rwa [List.take_append_drop] at this
    · rw [List.drop_eq_nil_of_le (by omega : l.length ≤ k), List.take_of_length_le (by omega)]; simp
  rw [e, valFrom_append, h.2.2] at hp
  have := valFrom_ge (l.drop k) v
  have := hn.1
  have := hn.2.1
  omega

theorem readTo_all {l : List UInt8} {v : Nat} (h : ReadTo l l.length v) {n : Int} (hn : IsNum l n) : n = if startOf l = 0 then (v : Int) else -(v : Int) := by
  obtain ⟨_, _, hp, hs, _⟩ := isNum_parts hn
  obtain ⟨_, _, h3⟩ := h
  rw [List.take_length] at h3
  rw [h3] at hp
  by_cases hneg : n < 0
  · rw [if_pos hneg] at hs; rw [hs, if_neg (by omega)]; omega
  · rw [if_neg hneg] at hs; rw [hs, if_pos rfl]; omega

theorem parse_valFrom : ∀ (l : List UInt8) (acc : Nat), (∀ c ∈ l, isDig c) → valFrom acc l < 18446744073709551616 → Lib.parseUint10 acc l = .ok (valFrom acc l)
  | [], acc, _, _ => by rw [valFrom_nil]; rfl
  | c :: r, acc, hd, hv => by
    have h := hd c (by simp)
    unfold isDig at h
    have hg := valFrom_ge r (acc * 10 + (c.toNat - 48))
    rw [valFrom_cons] at hv ⊢
    simp only [Lib.parseUint10]
    rw [if_pos h, if_neg (by omega), if_neg (by omega)]
    exact parse_valFrom r _ (fun x hx => hd x (by simp [hx])) hv

/-- strconv.Atoi reads the numeral of an int. -/
theorem atoi_isNum {l : List UInt8} {n : Int} (h : IsNum l n) : Lib.atoiAll l = .ok n := by
  obtain ⟨hd, hl, hv, hs, _, _⟩ := isNum_parts h
  obtain ⟨h0, h1, h2⟩ := h
  cases l with
  | nil => simp at hl
  | cons c r =>
    by_cases hn : n < 0
    · rw [if_pos hn] at hs
      have hc : c.toNat = 45 := by
        unfold startOf at hs
        split at hs
        · rename_i h; simpa using h
        · omega
      rw [hs] at hd hl hv
      simp only [List.drop_succ_cons, List.drop_zero] at hd hl hv
      have hp := parse_valFrom r 0 hd (by omega)
      have hm : Lib.parseMag r = .ok n.natAbs := by
        unfold Lib.parseMag
        rw [if_neg (by intro h; rw [h] at hl; simp at hl), hp, hv]
      simp only [Lib.atoiAll, hc, or_true, if_true, hm]
      rw [if_neg (by simp), if_neg (by simp; omega)]
      congr 1
      omega
    · rw [if_neg hn] at hs
      have hc : c.toNat ≠ 45 := by
        intro hc
        unfold startOf at hs
        rw [if_pos (by simpa using hc)] at hs
        omega
      rw [hs] at hd hl hv
      simp only [List.drop_zero] at hd hl hv
      have hdc := hd c (by simp)
      unfold isDig at hdc
      have hp := parse_valFrom (c :: r) 0 hd (by omega)
      have hm : Lib.parseMag (c :: r) = .ok n.natAbs := by
        unfold Lib.parseMag
        rw [if_neg (by simp), hp, hv]
      simp only [Lib.atoiAll]
      rw [if_neg (by omega), hm]
      simp only [hc, not_false_eq_true, true_and, false_and, if_false]
      rw [if_neg (by omega)]
      congr 1
      omega
end Go.Proofs.Ytgknkjiifcnkpaa
namespace Go.Proofs.Ytgknkjiifcnkpaa

/-- The parts of l at c. -/
def partsL (c : UInt8) : List UInt8 → List (List UInt8)
  | [] => [[]]
  | x :: r => if x = c then [] :: partsL c r else match partsL c r with
    | [] => [[x]]
    | p :: ps => (x :: p) :: ps

theorem parts_none {c : UInt8} : ∀ {l : List UInt8}, (∀ x ∈ l, x ≠ c) → partsL c l = [l]
  | [], _ => rfl
  | x :: r, h => by
    have h1 : x ≠ c := h x (by simp)
    rw [partsL, if_neg h1, parts_none (fun y hy => h y (by simp [hy]))]

theorem parts_cut {c : UInt8} (r : List UInt8) : ∀ {a : List UInt8}, (∀ x ∈ a, x ≠ c) → partsL c (a ++ c :: r) = a :: partsL c r
  | [], _ => by rw [List.nil_append, partsL, if_pos rfl]
  | x :: a, h => by
    have h1 : x ≠ c := h x (by simp)
    rw [List.cons_append, partsL, if_neg h1, parts_cut r (fun y hy => h y (by simp [hy]))]

theorem parts_pos {c : UInt8} (l : List UInt8) : 1 ≤ (partsL c l).length := by
  cases l with
  | nil => simp [partsL]
  | cons x r =>
    rw [partsL]
    split
    · simp
    · split <;> simp

theorem parts_len {c : UInt8} : ∀ (l : List UInt8), (partsL c l).length ≤ l.length + 1
  | [] => by simp [partsL]
  | x :: r => by
    have := parts_len (c := c) r
    rw [partsL]
    split
    · simp; omega
    · split <;> simp_all; omega

theorem parts_join {c : UInt8} : ∀ (l : List UInt8), Lib.join (partsL c l) [c] = l
  | [] => rfl
  | x :: r => by
    have ih := parts_join (c := c) r
    have hp := parts_pos (c := c) r
    rw [partsL]
    split
    · rename_i hx
      subst hx
      generalize partsL x r = q at ih hp
      cases q with
      | nil => simp at hp
      | cons p ps =>
        rw [Lib.join_cons] at ih
        rw [Lib.join_cons, Lib.joinTail, List.map_cons, List.flatten_cons]
        rw [Lib.joinTail] at ih
        simpa using ih
    · generalize partsL c r = q at ih hp
      cases q with
      | nil => simp at hp
      | cons p ps =>
        rw [Lib.join_cons] at ih
        rw [Lib.join_cons, List.cons_append, ih]

theorem occ_at {s : List UInt8} {c : UInt8} {i : Nat} : Lib.occAt s [c] i = true ↔ s[i]? = some c := by
  unfold Lib.occAt
  rw [← List.head?_drop]
  cases s.drop i with
  | nil => simp
  | cons x r =>
    have h : [c].isPrefixOf (x :: r) = (c == x) := by simp [List.isPrefixOf]
    rw [h, List.head?_cons, beq_iff_eq, Option.some.injEq]
    exact eq_comm

theorem splitK_parts (c : UInt8) : ∀ (n : Nat) (l : List UInt8), l.length ≤ n → Lib.splitK [c] 0 (Lib.count l [c]) l = partsL c l := by
  intro n
  induction n with
  | zero =>
    intro l hl
    obtain rfl : l = [] := List.eq_nil_of_length_eq_zero (by omega)
    rfl
  | succ n ih =>
    intro l hl
    rcases Lib.index_spec l [c] with ⟨h1, h2⟩ | ⟨i, h1, h2, h3, h4⟩
    · rw [Lib.count_miss h1, Lib.splitK]
      refine (parts_none fun x hx => ?_).symm
      rintro rfl
      obtain ⟨j, hj⟩ := List.getElem?_of_mem hx
      have hjl := (List.getElem?_eq_some_iff.1 hj).1
      have := h2 j (by omega)
      rw [occ_at.2 hj] at this
      cases this
    · have hi := occ_at.1 h3
      have hil := (List.getElem?_eq_some_iff.1 hi).1
      have hl2 : l = l.take i ++ c :: l.drop (i + 1) := by
        have e := List.take_append_drop i l
        have e2 : l.drop i = c :: l.drop (i + 1) := by
          rw [List.drop_eq_getElem_cons hil]
          congr 1
          exact (List.getElem?_eq_some_iff.1 hi).2
        rw [e2] at e
        exact e.symm
      have hno : ∀ x ∈ l.take i, x ≠ c := by
        rintro x hx rfl
        obtain ⟨j, hj⟩ := List.getElem?_of_mem hx
        have hji : j < i := by
          have := (List.getElem?_eq_some_iff.1 hj).1
          simp at this
          omega
        rw [List.getElem?_take, if_pos hji] at hj
        have := h4 j hji
        rw [occ_at.2 hj] at this
        cases this
      rw [Lib.count_hit (by simp) h1, Nat.add_comm, Lib.splitK]
      have hne : ¬ (Lib.index l [c] == -1) = true := by rw [h1]; simp
      rw [if_neg hne, h1]
      simp only [Int.toNat_natCast, Nat.add_zero, List.length_cons, List.length_nil, Nat.zero_add]
      rw [ih (l.drop (i + 1)) (by simp; omega)]
      conv => rhs; rw [hl2]
      rw [parts_cut _ hno]

/-- A list of texts as cells. -/
def strCells (ps : List (List UInt8)) : List Value := ps.map fun p => Value.string ⟨p.toArray⟩

theorem mk_toList (s : ByteArray) : (⟨s.data.toList.toArray⟩ : ByteArray) = s := by cases s; simp

theorem splitB_cells (s sep : ByteArray) (c : UInt8) (hsep : sep.data.toList = [c]) : (Lib.splitB sep 0 (Lib.countB s sep) s).map Value.string = strCells (partsL c s.data.toList) := by
  have h := Lib.splitB_data sep 0 (Lib.countB s sep) s
  have hc : Lib.countB s sep = Lib.count s.data.toList [c] := by
    unfold Lib.countB; rw [hsep]
  rw [hsep, hc, splitK_parts c _ _ (Nat.le_refl _)] at h
  unfold strCells
  rw [hc, ← h, List.map_map]
  refine List.map_congr_left fun x _ => ?_
  simp

theorem countB_parts (s sep : ByteArray) (c : UInt8) (hsep : sep.data.toList = [c]) : Lib.countB s sep + 1 = (partsL c s.data.toList).length := by
  have h := congrArg List.length (splitB_cells s sep c hsep)
  rw [List.length_map, strCells, List.length_map] at h
  rw [← h, Lib.splitB_all sep (by rw [Lib.size_eq, hsep]; simp) 0 _ s rfl]

/-- Where a split stands: fr: where the next part begins; k: how far the text is read; ps: the parts so far. -/
def PInv (c : UInt8) (l : List UInt8) (fr k : Nat) (ps : List (List UInt8)) : Prop :=
  (k ≤ l.length ∧ fr ≤ k ∧ (∀ x ∈ (l.drop fr).take (k - fr), x ≠ c) ∧ partsL c l = ps ++ partsL c (l.drop fr)) ∨ (k = l.length + 1 ∧ fr ≤ k ∧ partsL c l = ps)

theorem pinv_start (c : UInt8) (l : List UInt8) : PInv c l 0 0 [] := Or.inl ⟨Nat.zero_le _, Nat.le_refl _, by simp, by simp⟩

theorem pinv_more {c : UInt8} {l : List UInt8} {fr k : Nat} {ps : List (List UInt8)} (h : PInv c l fr k ps) (hk : k < l.length) (hne : l[k] ≠ c) : PInv c l fr (k + 1) ps := by
  rcases h with ⟨h1, h2, h3, h4⟩ | ⟨h1, _⟩
  · refine Or.inl ⟨by omega, by omega, ?_, h4⟩
    intro x hx
    rw [show k + 1 - fr = (k - fr) + 1 by omega, List.take_add_one, List.mem_append] at hx
    rcases hx with hx | hx
    · exact h3 x hx
    · rw [List.getElem?_drop, show fr + (k - fr) = k by omega, List.getElem?_eq_getElem hk] at hx
      simp at hx
      rw [hx]; exact hne
  · omega

theorem pinv_cut {c : UInt8} {l : List UInt8} {fr k : Nat} {ps : List (List UInt8)} (h : PInv c l fr k ps) (hk : k < l.length) (he : l[k] = c) : PInv c l (k + 1) (k + 1) (ps ++ [(l.drop fr).take (k - fr)]) := by
  rcases h with ⟨h1, h2, h3, h4⟩ | ⟨h1, _⟩
  · refine Or.inl ⟨by omega, Nat.le_refl _, by simp, ?_⟩
    have e : l.drop fr = (l.drop fr).take (k - fr) ++ c :: l.drop (k + 1) := by
      have e1 := List.take_append_drop (k - fr) (l.drop fr)
      rw [List.drop_drop, show fr + (k - fr) = k by omega, List.drop_eq_getElem_cons hk, he] at e1
      exact e1.symm
    rw [h4]
    conv => lhs; rw [e]
    rw [parts_cut _ h3, List.append_assoc]
    rfl
  · omega

theorem pinv_end {c : UInt8} {l : List UInt8} {fr k : Nat} {ps : List (List UInt8)} (h : PInv c l fr k ps) (hk : k = l.length) : PInv c l (k + 1) (k + 1) (ps ++ [(l.drop fr).take (k - fr)]) := by
  rcases h with ⟨h1, h2, h3, h4⟩ | ⟨h1, _⟩
  · refine Or.inr ⟨by omega, Nat.le_refl _, ?_⟩
    have e : (l.drop fr).take (k - fr) = l.drop fr := List.take_of_length_le (by simp; omega)
    rw [e] at h3 ⊢
    rw [h4, parts_none h3]
  · omega

theorem pinv_done {c : UInt8} {l : List UInt8} {fr k : Nat} {ps : List (List UInt8)} (h : PInv c l fr k ps) (hk : ¬ k ≤ l.length) : ps = partsL c l := by
  rcases h with ⟨h1, _⟩ | ⟨_, _, h⟩
  · omega
  · exact h.symm
theorem pinv_le {c : UInt8} {l : List UInt8} {fr k : Nat} {ps : List (List UInt8)} (h : PInv c l fr k ps) : ps.length ≤ l.length + 1 ∧ fr ≤ k ∧ k ≤ l.length + 1 := by
  have hp := parts_len (c := c) l
  rcases h with ⟨h1, h2, _, h4⟩ | ⟨h1, h2, h⟩
  · have := congrArg List.length h4
    simp at this
    omega
  · rw [h] at hp
    omega

theorem extract_mk (s : ByteArray) (a b : Nat) : s.extract a b = ⟨((s.data.toList.drop a).take (b - a)).toArray⟩ := by
  have h := Lib.extract_data s a b
  cases hs : s.extract a b with
  | mk d =>
    rw [hs] at h
    simp only at h
    rw [← h]
end Go.Proofs.Ytgknkjiifcnkpaa
namespace Go.Proofs.Ytgknkjiifcnkpaa
open Go

section
variable {P : Program} {ops : Array Oper} {Q : Exit → Act → World → Prop} {md : Region.Mode} {C : World → Prop} {st : Nat}

/-- Whatever comes up next: behind it C holds, as long as number st has not come up. -/
def wpAnyC (P : Program) (md : Region.Mode) (ops : Array Oper) (Q : Exit → Act → World → Prop) (C : World → Prop) (st : Nat) : Nat → Array Bool → Act → World → Prop
  | 0, L, a, w => Region.ready md ops L = [] ∧ Q .normal a w
  | k + 1, L, a, w => (Region.ready md ops L = [] → Q .normal a w) ∧
    ∀ j ∈ Region.ready md ops L, wpOp P ops Q j (fun a' w' => ((L.setIfInBounds j true).getD st true = false → C w') ∧ wpAnyC P md ops Q C st k (L.setIfInBounds j true) a' w') a w
theorem wpAnyC_any : ∀ (k : Nat) (L : Array Bool) (a : Act) (w : World), wpAnyC P md ops Q C st k L a w → wpAny P md ops Q k L a w
  | 0, _, _, _, h => h
  | k + 1, _, _, _, h => ⟨h.1, fun j hj => wpOp_mono (fun a' w' h' => wpAnyC_any k _ a' w' h'.2) (h.2 j hj)⟩
/-- What an operation that is taken first needs of the worlds: nothing, or C, and that number st waits for it. -/
def MayC (md : Region.Mode) (ops : Array Oper) (C D : World → Prop) (st i : Nat) (L : Array Bool) : Prop :=
  i ≠ st ∧ ((∀ w, D w) ∨ ((∀ w, C w → D w) ∧ L.getD st true = false ∧ ∀ o, ops[st]? = some o → ∃ e ∈ o.after, Region.binds md e = true ∧ e.on = i))
theorem wpAnyC_first {D : World → Prop} {i : Nat} {oi : Oper} {v : Value} (hi : ops[i]? = some oi) (hsel : ∀ (j : Nat) (o : Oper) cs b, ops[j]? = some o → o.op ≠ .select cs b)
    (hQ : ∀ c a w, Q (.panic c) (a.put oi.dst v) w → Q (.panic c) a w) :
    ∀ (k : Nat) (L : Array Bool) (a : Act) (w : World),
      (∀ j oj, ops[j]? = some oj → j ≠ i → L.getD j true = false → (∀ e ∈ oj.after, Region.binds md e = true → e.on ≠ i) → oi.apart ops oj = true) →
      MayC md ops C D st i L → i ∈ Region.ready md ops L → YieldsIf P ops D oi v a → D w → (L.getD st true = false → C w) →
      wpAnyC P md ops Q C st k (L.setIfInBounds i true) (a.put oi.dst v) w → wpAnyC P md ops Q C st (k + 1) L a w := by
  intro k
  induction k with
  | zero =>
    intro L a w _ _ hr hy hD hC H
    refine ⟨fun h => (by rw [h] at hr; cases hr), fun j hj => ?_⟩
    by_cases hji : j = i
    · subst hji
      refine hy.wpOp hi hD ⟨fun hl => hC ?_, H⟩
      by_cases e : j = st
      · subst e
        exact (mem_ready.1 hr).1
      · rwa [getD_set_ne true e] at hl
    · have hm := ready_mono hj hji
      rw [H.1] at hm
      cases hm
  | succ k ih =>
    intro L a w hfree hM hr hy hD hC H
    refine ⟨fun h => (by rw [h] at hr; cases hr), fun j hj => ?_⟩
    by_cases hji : j = i
    · subst hji
      refine hy.wpOp hi hD ⟨fun hl => hC ?_, H⟩
      by_cases e : j = st
      · subst e
        exact (mem_ready.1 hr).1
      · rwa [getD_set_ne true e] at hl
    · obtain ⟨hjun, oj, hoj, hall⟩ := mem_ready.1 hj
      have hnot : ∀ e ∈ oj.after, Region.binds md e = true → e.on ≠ i := fun e he hb heq => by
        have h1 := hall e he hb
        have h0 := (mem_ready.1 hr).1
        rw [heq] at h1
        by_cases hs : i < L.size
        · simp [hs] at h0 h1
          rw [h0] at h1
          cases h1
        · simp [Array.getElem?_eq_none (Nat.le_of_not_lt hs)] at h1
      have h2 := wpOp_putIf hoj (hfree j oj hoj hji hjun hnot) (fun cs b => hsel i oi cs b hi) (fun cs b => hsel j oj cs b hoj) hQ hy (H.2 j (ready_mono hj hji))
      have hfree' : ∀ q oq, ops[q]? = some oq → q ≠ i → (L.setIfInBounds j true).getD q true = false → (∀ e ∈ oq.after, Region.binds md e = true → e.on ≠ i) → oi.apart ops oq = true := fun q oq hq hqi hun hno => by
        refine hfree q oq hq hqi ?_ hno
        by_cases hjq : j = q
        · subst hjq
          exact hjun
        · rwa [getD_set_ne true hjq] at hun
      refine wpOp_mono (fun a' w' h3 => ?_) h2
      have hK : (L.setIfInBounds j true).getD st true = false → C w' := fun hl => by
        refine h3.2.1 ?_
        rw [Array.setIfInBounds_comm _ _ (fun e => hji e.symm), getD_set_ne true hM.1]
        exact hl
      have hMD : D w' ∧ MayC md ops C D st i (L.setIfInBounds j true) := by
        rcases hM with ⟨h2, h | ⟨h1, h4, h5⟩⟩
        · exact ⟨h w', h2, Or.inl h⟩
        · have hjs : j ≠ st := fun e => by
            subst e
            obtain ⟨e, he, hb, ho⟩ := h5 oj hoj
            exact hnot e he hb ho
          have hl : (L.setIfInBounds j true).getD st true = false := by rwa [getD_set_ne true hjs]
          exact ⟨h1 w' (hK hl), h2, Or.inr ⟨h1, hl, h5⟩⟩
      refine ⟨hK, ih (L.setIfInBounds j true) a' w' hfree' hMD.2 (ready_mono hr (Ne.symm hji)) h3.1 hMD.1 hK ?_⟩
      rw [Array.setIfInBounds_comm _ _ hji]
      exact h3.2.2
/-- Number i is taken first: it yields v in every world that meets C, and number st waits for it. -/
theorem wpAnyC_take {i : Nat} {oi : Oper} {v : Value} {k : Nat} {L : Array Bool} {a : Act} {w : World} (hi : ops[i]? = some oi)
    (hs : Region.noSelect ops = true) (hf : Region.free md ops L i = true) (hr : (Region.ready md ops L).contains i = true)
    (hQ : ∀ c a w, Q (.panic c) (a.put oi.dst v) w → Q (.panic c) a w) (hne : (i == st) = false) (hun : L.getD st true = false)
    (hst : ((ops[st]?).map fun o => o.after.any fun e => Region.binds md e && e.on == i) = some true) (hy : YieldsIf P ops C oi v a) (hC : C w)
    (h : wpAnyC P md ops Q C st k (L.setIfInBounds i true) (a.put oi.dst v) w) : wpAnyC P md ops Q C st (k + 1) L a w := by
  refine wpAnyC_first hi (Region.noSelect_spec hs) hQ k L a w (Region.free_spec hi hf) ⟨by simpa using hne, Or.inr ⟨fun _ h => h, hun, fun o ho => ?_⟩⟩ (by simpa using hr) hy hC (fun _ => hC) h
  rw [ho] at hst
  obtain ⟨e, he, hb⟩ := Array.any_eq_true'.1 (Option.some.inj hst)
  simp only [Bool.and_eq_true, beq_iff_eq] at hb
  exact ⟨e, he, hb⟩
/-- Number i is taken first: it yields v in every world. -/
theorem wpAnyC_takeU {i : Nat} {oi : Oper} {v : Value} {k : Nat} {L : Array Bool} {a : Act} {w : World} (hi : ops[i]? = some oi)
    (hs : Region.noSelect ops = true) (hf : Region.free md ops L i = true) (hr : (Region.ready md ops L).contains i = true)
    (hQ : ∀ c a w, Q (.panic c) (a.put oi.dst v) w → Q (.panic c) a w) (hne : (i == st) = false) (hy : YieldsIf P ops (fun _ => True) oi v a) (hC : L.getD st true = false → C w)
    (h : wpAnyC P md ops Q C st k (L.setIfInBounds i true) (a.put oi.dst v) w) : wpAnyC P md ops Q C st (k + 1) L a w :=
  wpAnyC_first hi (Region.noSelect_spec hs) hQ k L a w (Region.free_spec hi hf) ⟨by simpa using hne, Or.inl fun _ => trivial⟩ (by simpa using hr) hy trivial hC h
/-- Only number i may come up. -/
theorem wpAnyC_step {i k : Nat} {o : Oper} {L : Array Bool} {a : Act} {w : World} (hr : Region.ready md ops L = [i]) (ho : ops[i]? = some o)
    (h : ∀ K' : Act → World → Prop, Shut (∀ a w, ((L.setIfInBounds i true).getD st true = false → C w) → wpAnyC P md ops Q C st k (L.setIfInBounds i true) a w → K' a w) → if Region.wanted o (yielded ops a.tmps) = true then Oper.wp P o a w K' Q else K' (a.put o.dst undef) w) :
    wpAnyC P md ops Q C st (k + 1) L a w := by
  refine ⟨fun h0 => absurd (hr.symm.trans h0) (by simp), fun j hj => ?_⟩
  rw [hr] at hj
  obtain rfl : j = i := by simpa using hj
  exact wpOp_step ho (fun K' hK => h K' (fun a w hS hW => hK a w ⟨hS, hW⟩))
theorem wpAnyC_done {L : Array Bool} {a : Act} {w : World} (hr : Region.ready md ops L = []) (h : Q .normal a w) : ∀ k, wpAnyC P md ops Q C st k L a w
  | 0 => ⟨hr, h⟩
  | _ + 1 => ⟨fun _ => h, by rw [hr]; simp⟩
/-- The beginning: C is shown of the world behind the draw. -/
theorem wp_region_C {id : Nat} {a : Act} {w : World} (hm : P.follows .mixedOrders = true) (hC : C w.drew)
    (h : C w.drew → wpAnyC P .any ops Q C st ops.size (Array.replicate ops.size false) a w.drew) : (Code.region id ops true).wp P Q a w :=
  wp_region_any hm (wpAnyC_any _ _ _ _ (h hC))
end
end Go.Proofs.Ytgknkjiifcnkpaa
namespace Go.Proofs.Ytgknkjiifcnkpaa

/-- Any order from here on; S holds behind each operation, as long as number k is still to come; H always. -/
def AnyK (P : Program) (ops : Array Oper) (Q : Exit → Act → World → Prop) (S H : World → Prop) (k : Nat) (fuel : Nat) : Array Bool → Act → World → Prop :=
  Nat.rec (motive := fun _ => Array Bool → Act → World → Prop) (fun l a w => Region.ready .any ops l = [] ∧ Q .normal a w)
    (fun _ r l a w => (Region.ready .any ops l = [] → Q .normal a w) ∧ ∀ j ∈ Region.ready .any ops l, wpOp P ops Q j (fun a' w' => (((l.setIfInBounds j true).getD k true = false → S w') ∧ H w') ∧ r (l.setIfInBounds j true) a' w') a w) fuel
section
variable {P : Program} {ops : Array Oper} {Q : Exit → Act → World → Prop} {S H : World → Prop} {k : Nat}
theorem anyK_zero {l : Array Bool} {a : Act} {w : World} : AnyK P ops Q S H k 0 l a w ↔ (Region.ready .any ops l = [] ∧ Q .normal a w) := Iff.rfl
theorem anyK_succ {n : Nat} {l : Array Bool} {a : Act} {w : World} : AnyK P ops Q S H k (n + 1) l a w ↔ ((Region.ready .any ops l = [] → Q .normal a w) ∧ ∀ j ∈ Region.ready .any ops l, wpOp P ops Q j (fun a' w' => (((l.setIfInBounds j true).getD k true = false → S w') ∧ H w') ∧ AnyK P ops Q S H k n (l.setIfInBounds j true) a' w') a w) := Iff.rfl
theorem any_of_K : ∀ (n : Nat) (l : Array Bool) (a : Act) (w : World), AnyK P ops Q S H k n l a w → wpAny P .any ops Q n l a w
  | 0, _, _, _, h => h
  | n + 1, _, _, _, h => ⟨h.1, fun j hj => wpOp_mono (fun a' w' g => any_of_K n _ a' w' g.2) (h.2 j hj)⟩
/-- Whether number k waits for number i. -/
def waitsB (ops : Array Oper) (k i : Nat) : Bool := match ops[k]? with | some o => o.after.any (fun e => Region.binds .any e && e.on == i) | none => false
theorem waits_not {k i : Nat} {l : Array Bool} (h : waitsB ops k i = true) (hi : l.getD i true = false) : ¬ k ∈ Region.ready .any ops l := by
  intro hk
  obtain ⟨_, o, ho, hall⟩ := mem_ready.1 hk
  rw [waitsB, ho] at h
  obtain ⟨e, he, hb⟩ := Array.any_eq_true'.1 h
  rw [Bool.and_eq_true, beq_iff_eq] at hb
  have g := hall e he hb.1
  rw [hb.2] at g
  have e1 : l.getD i true = l.getD i false := by
    rw [Array.getD_eq_getD_getElem?, Array.getD_eq_getD_getElem?] at *
    cases hx : l[i]? with
    | none => rw [hx] at hi; cases hi
    | some b => rfl
  rw [e1, g] at hi
  cases hi
theorem waits_on {i : Nat} {oj : Oper} {l : Array Bool} (hi : l.getD i true = false) (hall : ∀ e ∈ oj.after, Region.binds .any e = true → l.getD e.on false = true) : ∀ e ∈ oj.after, Region.binds .any e = true → e.on ≠ i := by
  intro e he hb heq
  have g := hall e he hb
  rw [heq, Array.getD_eq_getD_getElem?] at g
  rw [Array.getD_eq_getD_getElem?] at hi
  cases hx : l[i]? with
  | none => rw [hx] at hi; cases hi
  | some b =>
    rw [hx] at g hi
    rw [show b = true from g] at hi
    cases hi
/-- What yields its value wherever S holds may be taken first, if number k waits for it. -/
theorem anyK_first {i : Nat} {oi : Oper} {v : Value} (hi : ops[i]? = some oi) (hsel : ∀ (j : Nat) (o : Oper) cs b, ops[j]? = some o → o.op ≠ .select cs b)
    (hQ : ∀ c a w, Q (.panic c) (a.put oi.dst v) w → Q (.panic c) a w) (hw : waitsB ops k i = true) (hki : i ≠ k) (n : Nat) :
    ∀ (l : Array Bool) (a : Act) (w : World),
      (∀ j oj, ops[j]? = some oj → j ≠ i → l.getD j true = false → (∀ e ∈ oj.after, Region.binds .any e = true → e.on ≠ i) → oi.apart ops oj = true) →
      i ∈ Region.ready .any ops l → l.getD k true = false → YieldsIf P ops S oi v a → S w → H w →
      AnyK P ops Q S H k n (l.setIfInBounds i true) (a.put oi.dst v) w → AnyK P ops Q S H k (n + 1) l a w := by
  induction n with
  | zero =>
    intro l a w _ hr _ hy hS hH G
    refine anyK_succ.2 ⟨fun h => (by rw [h] at hr; cases hr), fun j hj => ?_⟩
    by_cases hji : j = i
    · subst hji
      exact hy.wpOp hi hS ⟨⟨fun _ => hS, hH⟩, G⟩
    · have g := ready_mono hj hji
      rw [(anyK_zero.1 G).1] at g
      cases g
  | succ n ih =>
    intro l a w hfree hr hlk hy hS hH G
    refine anyK_succ.2 ⟨fun h => (by rw [h] at hr; cases hr), fun j hj => ?_⟩
    by_cases hji : j = i
    · subst hji
      exact hy.wpOp hi hS ⟨⟨fun _ => hS, hH⟩, G⟩
    · have h1 := (anyK_succ.1 G).2 j (ready_mono hj hji)
      obtain ⟨hjun, oj, hoj, hall⟩ := mem_ready.1 hj
      have hiun := (mem_ready.1 hr).1
      have hjk : j ≠ k := by
        intro e
        subst e
        exact waits_not hw hiun hj
      have h2 := wpOp_putIf hoj (hfree j oj hoj hji hjun (waits_on hiun hall)) (fun cs b => hsel i oi cs b hi) (fun cs b => hsel j oj cs b hoj) hQ hy h1
      have hfree' : ∀ q oq, ops[q]? = some oq → q ≠ i → (l.setIfInBounds j true).getD q true = false → (∀ e ∈ oq.after, Region.binds .any e = true → e.on ≠ i) → oi.apart ops oq = true := fun q oq hq hqi hun hno => by
        refine hfree q oq hq hqi ?_ hno
        by_cases hjq : j = q
        · subst hjq
          exact hjun
        · rwa [getD_set_ne true hjq] at hun
      refine wpOp_mono (fun a' w' h3 => ?_) h2
      have hSw : S w' := h3.2.1.1 (by rw [getD_set_ne true hjk, getD_set_ne true hki]; exact hlk)
      refine ⟨⟨fun _ => hSw, h3.2.1.2⟩, ih (l.setIfInBounds j true) a' w' hfree' (ready_mono hr (Ne.symm hji)) (by rw [getD_set_ne true hjk]; exact hlk) h3.1 hSw h3.2.1.2 ?_⟩
      rw [Array.setIfInBounds_comm _ _ hji]
      exact h3.2.2
/-- What yields its value wherever H holds may be taken first. -/
theorem anyK_firstH {i : Nat} {oi : Oper} {v : Value} (hi : ops[i]? = some oi) (hsel : ∀ (j : Nat) (o : Oper) cs b, ops[j]? = some o → o.op ≠ .select cs b)
    (hQ : ∀ c a w, Q (.panic c) (a.put oi.dst v) w → Q (.panic c) a w) (hki : i ≠ k) (n : Nat) :
    ∀ (l : Array Bool) (a : Act) (w : World),
      (∀ j oj, ops[j]? = some oj → j ≠ i → l.getD j true = false → (∀ e ∈ oj.after, Region.binds .any e = true → e.on ≠ i) → oi.apart ops oj = true) →
      i ∈ Region.ready .any ops l → YieldsIf P ops H oi v a → (l.getD k true = false → S w) → H w →
      AnyK P ops Q S H k n (l.setIfInBounds i true) (a.put oi.dst v) w → AnyK P ops Q S H k (n + 1) l a w := by
  induction n with
  | zero =>
    intro l a w _ hr hy hS hH G
    refine anyK_succ.2 ⟨fun h => (by rw [h] at hr; cases hr), fun j hj => ?_⟩
    by_cases hji : j = i
    · subst hji
      exact hy.wpOp hi hH ⟨⟨fun e => hS (by rwa [getD_set_ne true hki] at e), hH⟩, G⟩
    · have g := ready_mono hj hji
      rw [(anyK_zero.1 G).1] at g
      cases g
  | succ n ih =>
    intro l a w hfree hr hy hS hH G
    refine anyK_succ.2 ⟨fun h => (by rw [h] at hr; cases hr), fun j hj => ?_⟩
    by_cases hji : j = i
    · subst hji
      exact hy.wpOp hi hH ⟨⟨fun e => hS (by rwa [getD_set_ne true hki] at e), hH⟩, G⟩
    · have h1 := (anyK_succ.1 G).2 j (ready_mono hj hji)
      obtain ⟨hjun, oj, hoj, hall⟩ := mem_ready.1 hj
      have hiun := (mem_ready.1 hr).1
      have h2 := wpOp_putIf hoj (hfree j oj hoj hji hjun (waits_on hiun hall)) (fun cs b => hsel i oi cs b hi) (fun cs b => hsel j oj cs b hoj) hQ hy h1
      have hfree' : ∀ q oq, ops[q]? = some oq → q ≠ i → (l.setIfInBounds j true).getD q true = false → (∀ e ∈ oq.after, Region.binds .any e = true → e.on ≠ i) → oi.apart ops oq = true := fun q oq hq hqi hun hno => by
        refine hfree q oq hq hqi ?_ hno
        by_cases hjq : j = q
        · subst hjq
          exact hjun
        · rwa [getD_set_ne true hjq] at hun
      refine wpOp_mono (fun a' w' h3 => ?_) h2
      have hSw : (l.setIfInBounds j true).getD k true = false → S w' := fun e => h3.2.1.1 (by rw [Array.setIfInBounds_comm _ _ (Ne.symm hji), getD_set_ne true hki]; exact e)
      refine ⟨⟨hSw, h3.2.1.2⟩, ih (l.setIfInBounds j true) a' w' hfree' (ready_mono hr (Ne.symm hji)) h3.1 hSw h3.2.1.2 ?_⟩
      rw [Array.setIfInBounds_comm _ _ hji]
      exact h3.2.2
/-! ### The moves -/
theorem anyK_take {i : Nat} {oi : Oper} {v : Value} {n : Nat} {l : Array Bool} {a : Act} {w : World} (hi : ops[i]? = some oi)
    (hs : Region.noSelect ops = true) (hf : Region.free .any ops l i = true) (hr : (Region.ready .any ops l).contains i = true)
    (hQ : ∀ c a w, Q (.panic c) (a.put oi.dst v) w → Q (.panic c) a w) (hw : (waitsB ops k i && !(i == k) && !l.getD k true) = true) (hy : YieldsIf P ops S oi v a) (hS : S w ∧ H w)
    (h : AnyK P ops Q S H k n (l.setIfInBounds i true) (a.put oi.dst v) w) : AnyK P ops Q S H k (n + 1) l a w := by
  rw [Bool.and_eq_true, Bool.and_eq_true, Bool.not_eq_true', Bool.not_eq_true', beq_eq_false_iff_ne] at hw
  exact anyK_first hi (Region.noSelect_spec hs) hQ hw.1.1 hw.1.2 n l a w (Region.free_spec hi hf) (by simpa using hr) hw.2 hy hS.1 hS.2 h
theorem anyK_takeH {i : Nat} {oi : Oper} {v : Value} {n : Nat} {l : Array Bool} {a : Act} {w : World} (hi : ops[i]? = some oi)
    (hs : Region.noSelect ops = true) (hf : Region.free .any ops l i = true) (hr : (Region.ready .any ops l).contains i = true)
    (hQ : ∀ c a w, Q (.panic c) (a.put oi.dst v) w → Q (.panic c) a w) (hw : (!(i == k)) = true) (hy : YieldsIf P ops H oi v a) (hS : S w ∧ H w)
    (h : AnyK P ops Q S H k n (l.setIfInBounds i true) (a.put oi.dst v) w) : AnyK P ops Q S H k (n + 1) l a w := by
  rw [Bool.not_eq_true', beq_eq_false_iff_ne] at hw
  exact anyK_firstH hi (Region.noSelect_spec hs) hQ hw n l a w (Region.free_spec hi hf) (by simpa using hr) hy (fun _ => hS.1) hS.2 h
/-- Each of those that may come up comes up. -/
def AllK (P : Program) (ops : Array Oper) (Q : Exit → Act → World → Prop) (S H : World → Prop) (k n : Nat) (l : Array Bool) (a : Act) (w : World) (rs : List Nat) : Prop :=
  ∀ i ∈ rs, wpOp P ops Q i (fun a' w' => (((l.setIfInBounds i true).getD k true = false → S w') ∧ H w') ∧ AnyK P ops Q S H k n (l.setIfInBounds i true) a' w') a w
theorem allK_nil {n : Nat} {l : Array Bool} {a : Act} {w : World} : AllK P ops Q S H k n l a w [] := fun _ h => by cases h
/-- An operation before number k: S is shown anew. -/
theorem allK_cons {n : Nat} {l : Array Bool} {a : Act} {w : World} {i : Nat} {o : Oper} {rs : List Nat} (ho : ops[i]? = some o)
    (h : ∀ K' : Act → World → Prop, Shut (∀ a w, S w ∧ H w → (S w ∧ H w → AnyK P ops Q S H k n (l.setIfInBounds i true) a w) → K' a w) → if Region.wanted o (yielded ops a.tmps) = true then Oper.wp P o a w K' Q else K' (a.put o.dst undef) w)
    (hs : AllK P ops Q S H k n l a w rs) : AllK P ops Q S H k n l a w (i :: rs) := fun j hj => by
  rcases List.mem_cons.1 hj with rfl | hj
  · exact wpOp_step ho (fun K' hK => h K' (fun a w hS hW => hK a w ⟨⟨fun _ => hS.1, hS.2⟩, hW hS⟩))
  · exact hs j hj
/-- Number k itself, or one behind it. -/
theorem allK_past {n : Nat} {l : Array Bool} {a : Act} {w : World} {i : Nat} {o : Oper} (ho : ops[i]? = some o) (hp : (l.setIfInBounds i true).getD k true = true)
    (h : ∀ K' : Act → World → Prop, Shut (∀ a w, H w → (H w → AnyK P ops Q S H k n (l.setIfInBounds i true) a w) → K' a w) → if Region.wanted o (yielded ops a.tmps) = true then Oper.wp P o a w K' Q else K' (a.put o.dst undef) w) : AllK P ops Q S H k n l a w [i] := fun j hj => by
  obtain rfl := List.mem_singleton.1 hj
  exact wpOp_step ho (fun K' hK => h K' (fun a w hH hW => hK a w ⟨⟨fun e => (by rw [hp] at e; cases e), hH⟩, hW hH⟩))
theorem anyK_ready {rs : List Nat} {n : Nat} {l : Array Bool} {a : Act} {w : World} (hr : Region.ready .any ops l = rs) (hne : rs ≠ [])
    (h : AllK P ops Q S H k n l a w rs) : AnyK P ops Q S H k (n + 1) l a w := anyK_succ.2 ⟨fun h0 => absurd (hr ▸ h0) hne, hr ▸ h⟩
theorem anyK_done {l : Array Bool} {a : Act} {w : World} (hr : Region.ready .any ops l = []) (h : Q .normal a w) : ∀ n, AnyK P ops Q S H k n l a w
  | 0 => anyK_zero.2 ⟨hr, h⟩
  | _ + 1 => anyK_succ.2 ⟨fun _ => h, by rw [hr]; simp⟩
theorem wp_region_K {id : Nat} {a : Act} {w : World} (hm : P.follows .mixedOrders = true) (hS : S w.drew ∧ H w.drew)
    (h : S w.drew ∧ H w.drew → AnyK P ops Q S H k ops.size (Array.replicate ops.size false) a w.drew) : (Code.region id ops true).wp P Q a w :=
  wp_region_any hm (any_of_K _ _ _ _ (h hS))
end
end Go.Proofs.Ytgknkjiifcnkpaa
namespace Go.Proofs.Ytgknkjiifcnkpaa
open Go.RowKit

theorem conv_one {P : Program} {src dst e : TypeId} (hs : P.underlying src = some (.slice e)) (he : P.underlying e = some (.int .u8)) (hd : P.underlying dst = some .string)
    (c : Nat) (hc : c < 256) (z : Int) (hz : z = (c : Int)) (cap : Nat) (w : World) :
    (convert src dst (.slice (some ⟨w.heap.size, 0, none⟩) 1 cap)).run P (w.alloc (.cells #[.int .u8 z] e)) = .ok (.string ⟨[UInt8.ofNat c].toArray⟩) (w.alloc (.cells #[.int .u8 z] e)) := by
  subst hz
  refine run_convert_bytes_back (w.alloc (.cells #[.int .u8 (c : Int)] e)) src dst e ⟨w.heap.size, 0, none⟩ cap [UInt8.ofNat c] hs he hd ?_
  intro j hj
  obtain rfl : j = 0 := by simpa using hj
  have h := World.cell?_alloc_mark w #[.int .u8 (c : Int)] e (0, 0) 0
  simp only [Addr.add, Nat.add_zero, if_true]
  rw [h]
  simp
  omega
end Go.Proofs.Ytgknkjiifcnkpaa
namespace Go.Proofs.Ytgknkjiifcnkpaa
open Go.RowKit

theorem infoStr : (Try.prog.info? 9).map (fun i => (i.zero, i.size, i.bytes)) = some (some (.string ByteArray.empty), 1, 16) := by kernel_rfl
theorem cellsStr : Try.prog.cellsOf 9 = 1 := by kernel_rfl
theorem strCells_len (a : List (List UInt8)) : (strCells a).length = a.length := List.length_map _
theorem news_one {w : World} {T : TypeId} {x : Value} : ∀ (j : Nat) (u : Value), [x][j]? = some u → (w.alloc (.cells #[x] T)).cell? ((⟨w.heap.size, 0, none⟩ : Addr).add j) = some u := by
  intro j u hu
  match j, hu with
  | 0, hu =>
    simp at hu
    subst hu
    have hb : (w.alloc (.cells #[x] T)).heap[w.heap.size]? = some (.cells #[x] T (0, 0)) := by
      show (w.heap.push _)[w.heap.size]? = _
      simp
    rw [show (⟨w.heap.size, 0, none⟩ : Addr).add 0 = ⟨w.heap.size, 0, none⟩ from by simp [Addr.add], cell_blk hb]
    rfl
theorem blk_lt {w : World} {b : Nat} {o : Obj} (h : w.heap[b]? = some o) : b < w.heap.size := (Array.getElem?_eq_some_iff.1 h).1
theorem alloc_blk (w : World) (cs : Array Value) (T : TypeId) : (w.alloc (.cells cs T)).heap[w.heap.size]? = some (.cells cs T (0, 0)) := by
  show (w.heap.push _)[w.heap.size]? = _
  simp
theorem alloc_lt (w : World) (o : Obj) : w.heap.size < (w.alloc o).heap.size := by simp
theorem blk_next {w w' : World} {b : Nat} {o : Obj} (h : w.heap[b]? = some o) (hB : Below w.heap.size w w') : w'.heap[b]? = some o := (hB.block b (blk_lt h)).trans h
theorem below_drewN2 {B : Nat} {a w : World} (h : Below B a w) (n : Nat) : Below B a (w.drewN n) := ⟨h.os, h.tape, h.output, h.size, h.block⟩
theorem owns_apart {w : World} {b1 b2 s1 s2 n1 n2 : Nat} {T1 T2 : TypeId} {v1 v2 : Value} {x1 x2 : List Value} (h1 : w.ownsRow b1 T1 s1 v1 n1 x1) (h2 : w.ownsRow b2 T2 s2 v2 n2 x2) (hT : T1 ≠ T2) : ∀ g, v1.ownBlock = some g → v2.ownBlock ≠ some g := by
  intro g hg hg2
  rcases h1.2 with ⟨rfl, _⟩ | ⟨g1, c1, cur1, rfl, _, hc1, _⟩
  · cases hg
  · rcases h2.2 with ⟨rfl, _⟩ | ⟨g2, c2, cur2, rfl, _, hc2, _⟩
    · cases hg2
    · simp only [Value.ownBlock, Option.some.injEq] at hg hg2
      subst hg
      subst hg2
      rw [hc1] at hc2
      injection hc2 with hc2
      injection hc2 with _ hc2
      exact hT hc2
theorem owns_keep {w w' : World} {b1 b2 n1 n2 : Nat} {T1 T2 : TypeId} {v1 v2 : Value} {x1 x2 : List Value} (h1 : w.ownsRow b1 T1 1 v1 n1 x1) (h2 : w.ownsRow b2 T2 1 v2 n2 x2) (hT : T1 ≠ T2) (hg : w.grownBy w' v2.ownBlock) : w'.ownsRow b1 T1 1 v1 n1 x1 := by
  refine h1.kept hg ?_
  cases e : v1.ownBlock with
  | none => exact Or.inl rfl
  | some g => exact Or.inr (fun k => owns_apart h1 h2 hT g e k.symm)
end Go.Proofs.Ytgknkjiifcnkpaa
namespace Go.Proofs.Ytgknkjiifcnkpaa
open Go.RowKit

theorem ret_str {a b : List UInt8} (h : a = b) : Ending.returned (.string ⟨a.toArray⟩) = .returned (.string ⟨b.toArray⟩) := by rw [h]
theorem ret_add {a b : ByteArray} {c : List UInt8} (h : a ++ b = ⟨c.toArray⟩) : Ending.returned (.string (a ++ b)) = .returned (.string ⟨c.toArray⟩) := by rw [h]
theorem digInv_done {u v : Nat} {l : List UInt8} (h : DigInv u v l) (hv : v = 0) : l = Lib.decDigits u := by
  rcases h with ⟨_, _, h⟩ | ⟨h, _⟩
  · exact h
  · exact absurd hv h

end Go.Proofs.Ytgknkjiifcnkpaa
namespace Go.Proofs.Ytgknkjiifcnkpaa
open Go.RowKit

def BelowOut (n : Nat) (e : Ending) : Prop := ∃ m : Nat, m < n ∧ e = .returned (.int .i64 m)
def IntOut (e : Ending) : Prop := ∃ z : Int, -9223372036854775808 ≤ z ∧ z ≤ 9223372036854775807 ∧ e = .returned (.int .i64 z)
def StrOut (M : Nat) (e : Ending) : Prop := ∃ s : ByteArray, s.size ≤ M ∧ e = .returned (.string s)

theorem belowOut_mod {n : Nat} {z : Int} (h : 1 ≤ n) : BelowOut n (.returned (.int .i64 (z % n))) :=
  ⟨(z % n).toNat, by have := Int.emod_lt_of_pos z (b := n) (by omega); have := Int.emod_nonneg z (b := n) (by omega); omega, by rw [Int.toNat_of_nonneg (Int.emod_nonneg _ (by omega))]⟩

set_option maxRecDepth 100000 in
theorem l1Below_small (W w : World) (p n : Nat) (h1 : 1 ≤ n) (h2 : n ≤ 256) (hc : Cur W w p) :
    Calls Try.prog 77 #[.pointer (some ⟨p, 0, none⟩), .int .i64 n] w fun e w' => BelowOut n e ∧ Cur W w' p ∧ w.grownBy w' (some p) := by
  have g1 : ¬ ((n : Int) ≤ 0) := by omega
  have g2 : (n : Int) ≤ 256 := by omega
  go_enter Try.func77, Try.ntmps77
  go_wp2_with fail
  refine (l1Byte W _ p hc).mono ?_
  rintro e w1 ⟨⟨b, hb, rfl⟩, hc1, hg1⟩
  go_wp2_with fail
  go_ret
  exact ⟨belowOut_mod h1, hc1, hg1⟩

set_option maxRecDepth 100000 in
theorem l1Below_big (W w : World) (p n : Nat) (h1 : 256 < n) (h2 : n ≤ 4294967296) (hc : Cur W w p) :
    Calls Try.prog 77 #[.pointer (some ⟨p, 0, none⟩), .int .i64 n] w fun e w' => BelowOut n e ∧ Cur W w' p ∧ w.grownBy w' (some p) := by
  have g1 : ¬ ((n : Int) ≤ 0) := by omega
  have g2 : ¬ (n : Int) ≤ 256 := by omega
  go_enter Try.func77, Try.ntmps77
  go_wp2_with fail
  refine (l1Byte W _ p hc).mono ?_
  rintro e w1 ⟨⟨b1, hb1, rfl⟩, hc1, hg1⟩
  go_wp2_with fail
  refine (l1Byte W _ p hc1).mono ?_
  rintro e w2 ⟨⟨b2, hb2, rfl⟩, hc2, hg2⟩
  go_wp2_with fail
  refine (l1Byte W _ p hc2).mono ?_
  rintro e w3 ⟨⟨b3, hb3, rfl⟩, hc3, hg3⟩
  go_wp2_with fail
  refine (l1Byte W _ p hc3).mono ?_
  rintro e w4 ⟨⟨b4, hb4, rfl⟩, hc4, hg4⟩
  go_wp2_with fail
  go_ret
  exact ⟨belowOut_mod (by omega), hc4, grownBy_trans (grownBy_trans (grownBy_trans hg1 hg2) hg3) hg4⟩

/-- A DRAW BELOW n. -/
theorem l1Below (W w : World) (p n : Nat) (h1 : 1 ≤ n) (h2 : n ≤ 4294967296) (hc : Cur W w p) :
    Calls Try.prog 77 #[.pointer (some ⟨p, 0, none⟩), .int .i64 n] w fun e w' => BelowOut n e ∧ Cur W w' p ∧ w.grownBy w' (some p) := by
  by_cases h : n ≤ 256
  · exact l1Below_small W w p n h1 h hc
  · exact l1Below_big W w p n (by omega) h2 hc

set_option maxRecDepth 100000 in
theorem l1Once (W w : World) (p n : Nat) (h1 : 1 ≤ n) (h2 : n ≤ 4294967296) (hc : Cur W w p) :
    Calls Try.prog 78 #[.pointer (some ⟨p, 0, none⟩), .int .i64 n] w fun e w' => (∃ b, e = .returned (.bool b)) ∧ Cur W w' p ∧ w.grownBy w' (some p) := by
  go_enter Try.func78, Try.ntmps78
  go_wp2_with fail
  refine (l1Below W _ p n h1 h2 hc).mono ?_
  rintro e w1 ⟨⟨b, hb, rfl⟩, hc1, hg1⟩
  go_wp2_with fail
  go_ret
  exact ⟨⟨_, rfl⟩, hc1, hg1⟩

/-- A cell of a block that the cursor is not. -/
theorem grown_cell {w w' : World} {p lb j : Nat} {x : Value} (hg : w.grownBy w' (some p)) (hne : lb ≠ p) (h : w.cell? ⟨lb, j, none⟩ = some x) : w'.cell? ⟨lb, j, none⟩ = some x := by
  have hlt : lb < w.heap.size := World.block_lt_of_cell? w _ h
  rw [World.cell?_of_block (w := w) (hg.block lb hlt (fun e => hne (Option.some.inj e)))]
  exact h

set_option maxRecDepth 100000 in
theorem l1Pick (W w : World) (p lb k M : Nat) (h1 : 1 ≤ k) (h2 : k ≤ 4294967296) (hne : lb ≠ p) (hcell : ∀ j, j < k → ∃ s : ByteArray, s.size ≤ M ∧ w.cell? ⟨lb, j, none⟩ = some (.string s)) (hc : Cur W w p) :
    Calls Try.prog 82 #[.pointer (some ⟨p, 0, none⟩), .slice (some ⟨lb, 0, none⟩) k k] w fun e w' => StrOut M e ∧ Cur W w' p ∧ w.grownBy w' (some p) := by
  have HC := Lib.hid hcell
  clear hcell
  go_enter Try.func82, Try.ntmps82
  go_wp2_with fail
  refine (l1Below W _ p k h1 h2 hc).mono ?_
  rintro e w1 ⟨⟨m, hm, rfl⟩, hc1, hg1⟩
  obtain ⟨s, hs, hcs⟩ := HC.out m hm
  have hcs1 := grown_cell hg1 hne hcs
  have hm1 : (m : Int) < k := by omega
  clear hcs
  go_wp2_with fail
  go_ret
  exact ⟨⟨s, hs, rfl⟩, hc1, hg1⟩

set_option maxRecDepth 100000 in
theorem l1PickInt (W w : World) (p lb k : Nat) (h1 : 1 ≤ k) (h2 : k ≤ 4294967296) (hne : lb ≠ p) (hcell : ∀ j, j < k → ∃ z : Int, -9223372036854775808 ≤ z ∧ z ≤ 9223372036854775807 ∧ w.cell? ⟨lb, j, none⟩ = some (.int .i64 z)) (hc : Cur W w p) :
    Calls Try.prog 43 #[.pointer (some ⟨p, 0, none⟩), .slice (some ⟨lb, 0, none⟩) k k] w fun e w' => IntOut e ∧ Cur W w' p ∧ w.grownBy w' (some p) := by
  have HC := Lib.hid hcell
  clear hcell
  go_enter Try.func43, Try.ntmps43
  go_wp2_with fail
  refine (l1Below W _ p k h1 h2 hc).mono ?_
  rintro e w1 ⟨⟨m, hm, rfl⟩, hc1, hg1⟩
  obtain ⟨z, z0, z1, hcs⟩ := HC.out m hm
  have hcs1 := grown_cell hg1 hne hcs
  have hm1 : (m : Int) < k := by omega
  clear hcs
  go_wp2_with fail
  go_ret
  exact ⟨⟨z, z0, z1, rfl⟩, hc1, hg1⟩

theorem i64_and30 (n : Int) : bits .and .i64 n 1073741823 = n % 1073741824 := by
  have h127 : (BitVec.ofInt 64 1073741823).toNat = 2 ^ 30 - 1 := by decide
  have key : (BitVec.ofInt 64 n &&& BitVec.ofInt 64 1073741823).toNat = (n % ((2 ^ 64 : Nat) : Int)).toNat % 2 ^ 30 := by
    rw [BitVec.toNat_and, BitVec.toNat_ofInt, h127, Nat.and_two_pow_sub_one_eq_mod]
  show IntKind.i64.wrap ((BitVec.ofInt 64 n &&& BitVec.ofInt 64 1073741823).toNat : Nat) = n % 1073741824
  rw [key, IntKind.wrap_i64]
  omega

/-- What l1New hands back. -/
def NewOut (w : World) (e : Ending) (w' : World) : Prop := e = .returned (.pointer (some ⟨w.heap.size, 0, none⟩)) ∧ Cur w w' w.heap.size ∧ Below w.heap.size w w'

theorem newOut {w : World} {v : Value} {n : Nat} (hb : Bytes w v n) (h : Int) (h0 : 0 ≤ h) (h1 : h ≤ 9223372036854775807) :
    NewOut w (.returned (.pointer (some ⟨w.heap.size, 0, none⟩))) (w.alloc (.cells #[v, .int .i64 0, .int .i64 h] 80)) :=
  ⟨rfl, ⟨Nat.le_refl _, (Below.refl _ _).alloc (Nat.le_refl _) _, v, n, 0, h, hb, Nat.zero_le _, by omega, h1, by
    show (w.heap.push _)[w.heap.size]? = _
    simp⟩, (Below.refl _ _).alloc (Nat.le_refl _) _⟩

set_option maxRecDepth 100000 in
theorem l1New_nil (w : World) (c : Nat) :
    Calls Try.prog 41 #[.slice none 0 c] w fun e w' => NewOut w e w' := by
  go_enter Try.func41, Try.ntmps41
  go_wp2_with fail
  go_loop [3, 4] (fun h i => h = .int .i64 28507 ∧ i = .int .i64 0) (fun _ _ => 0)
  case atStart => exact ⟨rfl, rfl⟩
  case round =>
    obtain ⟨rfl, rfl⟩ := hrel
    go_wp2_with fail
    go_ret
    exact newOut (n := 0) (Or.inl ⟨c, rfl, rfl⟩) 28507 (by omega) (by omega)

set_option maxRecDepth 100000 in
theorem l1New_zero (w : World) (a : Addr) (c : Nat) :
    Calls Try.prog 41 #[.slice (some a) 0 c] w fun e w' => NewOut w e w' := by
  go_enter Try.func41, Try.ntmps41
  go_wp2_with fail
  go_loop [3, 4] (fun h i => h = .int .i64 28507 ∧ i = .int .i64 0) (fun _ _ => 0)
  case atStart => exact ⟨rfl, rfl⟩
  case round =>
    obtain ⟨rfl, rfl⟩ := hrel
    go_wp2_with fail
    go_ret
    exact newOut (n := 0) (Or.inr (Or.inl ⟨a, c, rfl, rfl⟩)) 28507 (by omega) (by omega)

set_option maxRecDepth 100000 in
set_option maxHeartbeats 1000000 in
theorem l1New_some (w : World) (b off c n : Nat) (hn : n ≤ 140737488355328) (hcell : ∀ j, j < n → b < w.heap.size ∧ ∃ z : Int, 0 ≤ z ∧ z ≤ 255 ∧ w.cell? ⟨b, off + j, none⟩ = some (.int .u8 z)) :
    Calls Try.prog 41 #[.slice (some ⟨b, off, none⟩) n c] w fun e w' => NewOut w e w' := by
  have HC := Lib.hid hcell
  have ka := i64_and30
  clear hcell
  go_enter Try.func41, Try.ntmps41
  go_wp2_with fail
  go_loop [3, 4] (fun h i => ∃ (k : Nat) (x : Int), k ≤ n ∧ 0 ≤ x ∧ x ≤ 281474976710656 ∧ h = .int .i64 x ∧ i = .int .i64 k) (fun _ i => n - (intOf i).toNat)
  case atStart => exact ⟨0, _, Nat.zero_le _, by omega, by omega, rfl, rfl⟩
  case round =>
    obtain ⟨k, x, hk, hx0, hx1, rfl, rfl⟩ := hrel
    have done : Hid (NewOut w (.returned (.pointer (some ⟨w.heap.size, 0, none⟩))) (w.alloc (.cells #[.slice (some ⟨b, off, none⟩) n c, .int .i64 0, .int .i64 x] 80))) :=
      newOut (n := n) (Or.inr (Or.inr ⟨b, off, c, rfl, hn, HC.out⟩)) x hx0 (by omega)
    by_cases hlt : k < n
    · by_cases h4 : k < 4000
      · obtain ⟨_, z, z0, z1, hz⟩ := HC.out k hlt
        have hk1 : (k : Int) < n := by omega
        have hk4 : (k : Int) < 4000 := by omega
        go_wp2_with fail
        go_round
        case rel => exact ⟨k + 1, _, by omega, by omega, by omega, rfl, by go_num⟩
        case measure => simp [intOf]; omega
      · have hk1 : (k : Int) < n := by omega
        have hk4 : ¬ (k : Int) < 4000 := by omega
        go_wp2_with fail
        go_ret
        exact done.out
    · have hk1 : ¬ (k : Int) < n := by omega
      go_wp2_with fail
      go_ret
      exact done.out

/-- A NEW CURSOR. -/
theorem l1New (w : World) (v : Value) (n : Nat) (hb : Bytes w v n) :
    Calls Try.prog 41 #[v] w fun e w' => NewOut w e w' := by
  rcases hb with ⟨c, rfl, rfl⟩ | ⟨a, c, rfl, rfl⟩ | ⟨b, off, c, rfl, hn, hcell⟩
  · exact l1New_nil w c
  · exact l1New_zero w a c
  · exact l1New_some w b off c n hn hcell
end Go.Proofs.Ytgknkjiifcnkpaa
namespace Go.Proofs.Ytgknkjiifcnkpaa
open Go.RowKit

/-- The digits behind the point, from thousandths. -/
def fracL (r : Nat) : List UInt8 :=
  if r = 0 then [] else 46 :: (if r % 10 ≠ 0 then [UInt8.ofNat (48 + r / 100), UInt8.ofNat (48 + r / 10 % 10), UInt8.ofNat (48 + r % 10)] else if r / 10 % 10 ≠ 0 then [UInt8.ofNat (48 + r / 100), UInt8.ofNat (48 + r / 10 % 10)] else [UInt8.ofNat (48 + r / 100)])
/-- The text of a decimal. -/
def fixT (n : Int) : List UInt8 := if -2147483647 ≤ n ∧ n ≤ 2147483647 then (if n < 0 then [45] else []) ++ Lib.itoa ((n.natAbs : Int) / 1000) ++ fracL (n.natAbs % 1000) else []
theorem isNum_uniq {l : List UInt8} {n m : Int} (h : IsNum l n) (k : IsNum l m) : n = m := by
  have e : Lib.itoa n = Lib.itoa m := h.2.2.trans k.2.2.symm
  have key : ∀ {x : Int}, ∃ b : Bool, (b = decide (x < 0)) ∧ Lib.itoa x = (if x < 0 then [45] else []) ++ Lib.decDigits x.natAbs := by
    intro x
    refine ⟨_, rfl, ?_⟩
    by_cases hx : x < 0
    · obtain ⟨u, rfl⟩ : ∃ u : Nat, x = -(u : Int) := ⟨x.natAbs, by omega⟩
      rw [Lib.itoa_neg u (by omega), if_pos hx]
      simp
    · obtain ⟨u, rfl⟩ := Int.eq_ofNat_of_zero_le (by omega : 0 ≤ x)
      rw [Lib.itoa_nonneg, if_neg hx]
      simp
  have hd : ∀ (u : Nat) (t : List UInt8), Lib.decDigits u ≠ 45 :: t := by
    intro u t ht
    have := decDigits_dig u 45 (by rw [ht]; simp)
    unfold isDig at this
    simp at this
  obtain ⟨_, _, en⟩ := key (x := n)
  obtain ⟨_, _, em⟩ := key (x := m)
  rw [en, em] at e
  by_cases h0 : n < 0
  · by_cases h1 : m < 0
    · rw [if_pos h0, if_pos h1] at e
      have e2 : Lib.decDigits n.natAbs = Lib.decDigits m.natAbs := by simpa using e
      have := congrArg (valFrom 0) e2
      rw [valFrom_decDigits, valFrom_decDigits] at this
      omega
    · rw [if_pos h0, if_neg h1] at e
      exact absurd e.symm (by simpa using hd m.natAbs _)
  · by_cases h1 : m < 0
    · rw [if_neg h0, if_pos h1] at e
      exact absurd e (by simpa using hd n.natAbs _)
    · rw [if_neg h0, if_neg h1] at e
      have e2 : Lib.decDigits n.natAbs = Lib.decDigits m.natAbs := by simpa using e
      have := congrArg (valFrom 0) e2
      rw [valFrom_decDigits, valFrom_decDigits] at this
      omega

open Classical in
/-- The number that a text of 0 to 999,999,999 stands for. -/
noncomputable def numV (l : List UInt8) : Option Int := if h : ∃ n, IsNum l n ∧ 0 ≤ n ∧ n ≤ 999999999 then some (Classical.choose h) else none
theorem numV_some {l : List UInt8} {n : Int} (h : IsNum l n) (h0 : 0 ≤ n) (h1 : n ≤ 999999999) : numV l = some n := by
  have he : ∃ n, IsNum l n ∧ 0 ≤ n ∧ n ≤ 999999999 := ⟨n, h, h0, h1⟩
  rw [numV, dif_pos he, isNum_uniq (Classical.choose_spec he).1 h]
theorem numV_is {l : List UInt8} {n : Int} (h : numV l = some n) : IsNum l n ∧ 0 ≤ n ∧ n ≤ 999999999 := by
  by_cases he : ∃ n, IsNum l n ∧ 0 ≤ n ∧ n ≤ 999999999
  · rw [numV, dif_pos he] at h
    rw [← Option.some.inj h]
    exact Classical.choose_spec he
  · rw [numV, dif_neg he] at h; cases h
theorem numV_none {l : List UInt8} (h : ∀ n, IsNum l n → n < 0 ∨ 999999999 < n) : numV l = none := by
  rw [numV, dif_neg (fun ⟨n, k, k0, k1⟩ => by have := h n k; omega)]

/-- What a digit counts. -/
def dV (c : UInt8) : Int := (c.toNat : Int) - 48
/-- Whether a byte is a digit. -/
def dgB (c : UInt8) : Bool := decide (0 ≤ dV c ∧ dV c ≤ 9)
/-- What a place behind the point counts. -/
def unitV : Nat → Int
  | 0 => 100
  | 1 => 10
  | 2 => 1
  | _ => 0
theorem unitV_next (k : Nat) : unitV k / 10 = unitV (k + 1) := by
  match k with
  | 0 => rfl
  | 1 => rfl
  | 2 => rfl
  | _ + 3 => rfl
/-- What the first places behind the point count. -/
def fA (ds : List UInt8) : Nat → Int
  | 0 => 0
  | k + 1 => fA ds k + unitV k * dV (ds.getD k 0)
/-- What one to three digits behind the point count, in thousandths. -/
def fracV (ds : List UInt8) : Option Int := if 1 ≤ ds.length ∧ ds.length ≤ 3 ∧ ds.all dgB = true then some (fA ds ds.length) else none
/-- What the parts of a text count. -/
noncomputable def bodyV : List (List UInt8) → Option Int
  | [a] => (numV a).map fun n => 1000 * n
  | [a, b] => (numV a).bind fun n => (fracV b).map fun r => 1000 * n + r
  | _ => none
/-- A decimal, if it is one. -/
def inV (n : Int) : Option Int := if -2147483647 ≤ n ∧ n ≤ 2147483647 then some n else none
/-- The decimal that a text stands for. -/
noncomputable def rdV (l : List UInt8) : Option Int :=
  if l.head? = some 45 then (bodyV (partsL 46 l.tail)).bind fun n => inV (-n) else (bodyV (partsL 46 l)).bind inV

theorem dV_digit {k : Nat} (h : k < 10) : dV (UInt8.ofNat (48 + k)) = k := by
  rw [dV, dig_toNat h]; omega
theorem dgB_digit {k : Nat} (h : k < 10) : dgB (UInt8.ofNat (48 + k)) = true := by
  rw [dgB, dV_digit h]; simp; omega
theorem dgB_no46 {ds : List UInt8} (h : ds.all dgB = true) : ∀ x ∈ ds, x ≠ 46 := by
  intro x hx e
  subst e
  have := List.all_eq_true.mp h 46 hx
  simp [dgB, dV] at this
theorem decDigits_no46 (u : Nat) : ∀ x ∈ Lib.decDigits u, x ≠ 46 := by
  intro x hx e
  subst e
  have := decDigits_dig u 46 hx
  unfold isDig at this
  simp at this
theorem frac_one (a : UInt8) : fA [a] 1 = 100 * dV a := by simp [fA, unitV]
theorem frac_two (a b : UInt8) : fA [a, b] 2 = 100 * dV a + 10 * dV b := by simp [fA, unitV]
theorem frac_three (a b c : UInt8) : fA [a, b, c] 3 = 100 * dV a + 10 * dV b + dV c := by simp [fA, unitV]
theorem frac_read {r : Nat} (h0 : r ≠ 0) (h1 : r < 1000) : ∃ ds, fracL r = 46 :: ds ∧ ds.all dgB = true ∧ fracV ds = some (r : Int) := by
  have a0 : r / 100 < 10 := by omega
  have a1 : r / 10 % 10 < 10 := by omega
  have a2 : r % 10 < 10 := by omega
  by_cases h2 : r % 10 = 0
  · by_cases h3 : r / 10 % 10 = 0
    · refine ⟨[UInt8.ofNat (48 + r / 100)], by simp [fracL, h0, h2, h3], by simp only [List.all_cons, List.all_nil, Bool.and_self, dgB_digit a0], ?_⟩
      rw [fracV, if_pos ⟨by simp, by simp, by simp only [List.all_cons, List.all_nil, Bool.and_self, dgB_digit a0]⟩]
      show some (fA _ 1) = _
      rw [frac_one, dV_digit a0]
      congr 1; omega
    · refine ⟨[UInt8.ofNat (48 + r / 100), UInt8.ofNat (48 + r / 10 % 10)], by simp [fracL, h0, h2, h3], by simp only [List.all_cons, List.all_nil, Bool.and_self, dgB_digit a0, dgB_digit a1], ?_⟩
      rw [fracV, if_pos ⟨by simp, by simp, by simp only [List.all_cons, List.all_nil, Bool.and_self, dgB_digit a0, dgB_digit a1]⟩]
      show some (fA _ 2) = _
      rw [frac_two, dV_digit a0, dV_digit a1]
      congr 1; omega
  · refine ⟨[UInt8.ofNat (48 + r / 100), UInt8.ofNat (48 + r / 10 % 10), UInt8.ofNat (48 + r % 10)], by simp [fracL, h0, h2], by simp only [List.all_cons, List.all_nil, Bool.and_self, dgB_digit a0, dgB_digit a1, dgB_digit a2], ?_⟩
    rw [fracV, if_pos ⟨by simp, by simp, by simp only [List.all_cons, List.all_nil, Bool.and_self, dgB_digit a0, dgB_digit a1, dgB_digit a2]⟩]
    show some (fA _ 3) = _
    rw [frac_three, dV_digit a0, dV_digit a1, dV_digit a2]
    congr 1; omega
theorem isNum_dec {q : Nat} (h : q ≤ 999999999) : IsNum (Lib.decDigits q) (q : Int) := ⟨by omega, by omega, Lib.itoa_nonneg q⟩
theorem body_read {q r : Nat} (hq : q ≤ 999999999) (hr : r < 1000) : bodyV (partsL 46 (Lib.decDigits q ++ fracL r)) = some (1000 * (q : Int) + r) := by
  by_cases h0 : r = 0
  · subst h0
    rw [show fracL 0 = [] by simp [fracL], List.append_nil, parts_none (decDigits_no46 q)]
    simp [bodyV, numV_some (isNum_dec hq) (by omega) (by omega)]
  · obtain ⟨ds, e, hds, hv⟩ := frac_read h0 hr
    rw [e, parts_cut _ (decDigits_no46 q), parts_none (dgB_no46 hds)]
    simp [bodyV, numV_some (isNum_dec hq) (by omega) (by omega), hv]
/-- A DECIMAL IS READ AS IT IS WRITTEN. -/
theorem rd_fixT {n : Int} (h0 : -2147483647 ≤ n) (h1 : n ≤ 2147483647) : rdV (fixT n) = some n := by
  have hq : n.natAbs / 1000 ≤ 999999999 := by omega
  have hr : n.natAbs % 1000 < 1000 := by omega
  have e : Lib.itoa ((n.natAbs : Int) / 1000) = Lib.decDigits (n.natAbs / 1000) := by
    rw [show (n.natAbs : Int) / 1000 = ((n.natAbs / 1000 : Nat) : Int) by omega, Lib.itoa_nonneg]
  rw [fixT, if_pos ⟨h0, h1⟩, e]
  by_cases hn : n < 0
  · rw [if_pos hn, rdV, if_pos (by simp)]
    rw [show (([45] : List UInt8) ++ Lib.decDigits (n.natAbs / 1000) ++ fracL (n.natAbs % 1000)).tail = Lib.decDigits (n.natAbs / 1000) ++ fracL (n.natAbs % 1000) by simp, body_read hq hr]
    rw [Option.bind_some, inV, if_pos (by omega)]
    congr 1; omega
  · rw [if_neg hn, List.nil_append, rdV, if_neg ?_, body_read hq hr]
    · rw [Option.bind_some, inV, if_pos (by omega)]
      congr 1; omega
    · intro k
      have hp := decDigits_pos (n.natAbs / 1000)
      cases hd : Lib.decDigits (n.natAbs / 1000) with
      | nil => rw [hd] at hp; simp at hp
      | cons c t =>
        rw [hd] at k
        simp at k
        subst k
        have := decDigits_dig (n.natAbs / 1000) 45 (by rw [hd]; simp)
        unfold isDig at this
        simp at this
theorem fixT_len (n : Int) : (fixT n).length ≤ 20 := by
  rw [fixT]
  split
  · rename_i k
    rw [show (n.natAbs : Int) / 1000 = ((n.natAbs / 1000 : Nat) : Int) by omega, Lib.itoa_nonneg]
    have hd : (Lib.decDigits (n.natAbs / 1000)).length ≤ 7 := by
      rw [Lib.decDigits_length]; exact nDigits_le 6 _ (by omega)
    have hs : (if n < 0 then ([45] : List UInt8) else []).length ≤ 1 := by split <;> simp
    have hf : (fracL (n.natAbs % 1000)).length ≤ 4 := by
      unfold fracL
      split
      · simp
      · split
        · simp
        · split <;> simp
    simp only [List.length_append]
    omega
  · simp
theorem fixT_ne {n : Int} (h0 : -2147483647 ≤ n) (h1 : n ≤ 2147483647) : fixT n ≠ [] := by
  rw [fixT, if_pos ⟨h0, h1⟩, show (n.natAbs : Int) / 1000 = ((n.natAbs / 1000 : Nat) : Int) by omega, Lib.itoa_nonneg]
  have hp := decDigits_pos (n.natAbs / 1000)
  intro k
  have := congrArg List.length k
  simp only [List.length_append, List.length_nil] at this
  omega
theorem inV_is {n m : Int} (h : inV n = some m) : n = m ∧ -2147483647 ≤ m ∧ m ≤ 2147483647 := by
  unfold inV at h
  split at h
  · rename_i k
    obtain rfl := Option.some.inj h
    exact ⟨rfl, k⟩
  · cases h
theorem numV_nil : numV [] = none := by
  refine numV_none fun n h => ?_
  have hp := h.2.2
  exfalso
  by_cases hn : n < 0
  · obtain ⟨u, rfl⟩ : ∃ u : Nat, n = -(u : Int) := ⟨n.natAbs, by omega⟩
    rw [Lib.itoa_neg u (by omega)] at hp; cases hp
  · obtain ⟨u, rfl⟩ := Int.eq_ofNat_of_zero_le (by omega : 0 ≤ n)
    rw [Lib.itoa_nonneg] at hp
    have := decDigits_pos u
    rw [hp] at this
    simp at this
theorem rd_nil : rdV [] = none := by
  rw [rdV, if_neg (by simp), parts_none (by simp)]
  simp [bodyV, numV_nil]
theorem numV_len {l : List UInt8} {n : Int} (h : numV l = some n) (h1 : n ≤ 2147483) : l.length ≤ 7 := by
  obtain ⟨⟨_, _, e⟩, h0, _⟩ := numV_is h
  obtain ⟨u, rfl⟩ := Int.eq_ofNat_of_zero_le h0
  rw [← e, Lib.itoa_nonneg, Lib.decDigits_length]
  exact nDigits_le 6 u (by omega)
theorem fA_nonneg {ds : List UInt8} (h : ds.all dgB = true) : ∀ k, k ≤ ds.length → 0 ≤ fA ds k
  | 0, _ => by simp [fA]
  | k + 1, hk => by
    have ih := fA_nonneg h k (by omega)
    have hd : dgB (ds.getD k 0) = true := by
      have hm : ds[k] ∈ ds := List.getElem_mem (by omega)
      have := List.all_eq_true.mp h _ hm
      rw [List.getD_eq_getElem?_getD, List.getElem?_eq_getElem (by omega)]
      exact this
    simp only [dgB, decide_eq_true_eq] at hd
    have hu : 0 ≤ unitV k := by unfold unitV; split <;> omega
    have := Int.mul_nonneg hu hd.1
    rw [fA]; omega
/-- A text that stands for a decimal is short. -/
theorem body_len {l : List UInt8} {n : Int} (h : bodyV (partsL 46 l) = some n) (h1 : n ≤ 2147483647) : l.length ≤ 11 := by
  have hj := parts_join (c := 46) l
  generalize partsL 46 l = ps at h hj
  match ps, h with
  | [a], h =>
    simp only [bodyV, Option.map_eq_some_iff] at h
    obtain ⟨m, hm, rfl⟩ := h
    have := numV_len hm (by omega)
    rw [Lib.join_one] at hj
    rw [← hj]
    omega
  | [a, b], h =>
    simp only [bodyV, Option.bind_eq_some_iff, Option.map_eq_some_iff] at h
    obtain ⟨m, hm, r, hr, rfl⟩ := h
    unfold fracV at hr
    split at hr
    · rename_i k
      obtain rfl := Option.some.inj hr
      have hp := fA_nonneg k.2.2 b.length (Nat.le_refl _)
      have := numV_len hm (by omega)
      rw [Lib.join_cons] at hj
      rw [← hj]
      simp [Lib.joinTail]
      omega
    · cases hr
theorem rd_len {l : List UInt8} {n : Int} (h : rdV l = some n) : l.length ≤ 12 := by
  unfold rdV at h
  split at h
  · rename_i hd
    simp only [Option.bind_eq_some_iff] at h
    obtain ⟨m, hm, hi⟩ := h
    obtain ⟨rfl, h0, h1⟩ := inV_is hi
    have : l.tail.length ≤ 11 := by
      refine body_len hm ?_
      omega
    have := List.length_tail (l := l)
    omega
  · simp only [Option.bind_eq_some_iff] at h
    obtain ⟨m, hm, hi⟩ := h
    obtain ⟨rfl, h0, h1⟩ := inV_is hi
    have := body_len hm h1
    omega
theorem rd_in {l : List UInt8} {n : Int} (h : rdV l = some n) : -2147483647 ≤ n ∧ n ≤ 2147483647 := by
  unfold rdV at h
  split at h
  · simp only [Option.bind_eq_some_iff] at h
    obtain ⟨m, hm, hi⟩ := h
    exact (inV_is hi).2
  · simp only [Option.bind_eq_some_iff] at h
    obtain ⟨m, hm, hi⟩ := h
    exact (inV_is hi).2
/-- What reading a text ends in. -/
noncomputable def rfE (l : List UInt8) : Ending :=
  match rdV l with
  | some n => .returned (.tuple #[.int .i64 n, .bool true])
  | none => .returned (.tuple #[.int .i64 0, .bool false])
/-- What another spelling ends in. -/
noncomputable def fnE (l : List UInt8) : Ending :=
  match rdV l with
  | some n => .returned (.tuple #[.string ⟨(fixT n).toArray⟩, .bool true])
  | none => .returned (.tuple #[.string ⟨#[]⟩, .bool false])
theorem rfE_some {l : List UInt8} {n : Int} (h : rdV l = some n) : rfE l = .returned (.tuple #[.int .i64 n, .bool true]) := by rw [rfE, h]
theorem rfE_none {l : List UInt8} (h : rdV l = none) : rfE l = .returned (.tuple #[.int .i64 0, .bool false]) := by rw [rfE, h]
theorem fnE_some {l : List UInt8} {n : Int} (h : rdV l = some n) : fnE l = .returned (.tuple #[.string ⟨(fixT n).toArray⟩, .bool true]) := by rw [fnE, h]
theorem fnE_none {l : List UInt8} (h : rdV l = none) : fnE l = .returned (.tuple #[.string ⟨#[]⟩, .bool false]) := by rw [fnE, h]
end Go.Proofs.Ytgknkjiifcnkpaa
namespace Go.Proofs.Ytgknkjiifcnkpaa
open Go.RowKit

theorem infoInt : (Try.prog.info? 3).map (fun i => (i.zero, i.size, i.bytes)) = some (some (.int .i64 0), 1, 8) := by kernel_rfl

def intCells (zs : List Int) : List Value := zs.map fun z => Value.int .i64 z
theorem intCells_len (a : List Int) : (intCells a).length = a.length := List.length_map _
theorem intCells_at {zs : List Int} {j : Nat} {z : Int} (h : zs[j]? = some z) : (intCells zs)[j]? = some (.int .i64 z) := by
  unfold intCells
  rw [List.getElem?_map, h]
  rfl

/-- v reads as the numbers zs in w. -/
def IntRow (w : World) (v : Value) (zs : List Int) : Prop :=
  (zs = [] ∧ ∃ a c, v = .slice a 0 c) ∨ ∃ b off c, v = .slice (some ⟨b, off, none⟩) zs.length c ∧ zs.length ≤ 9223372036854775807 ∧ zs.length ≤ c ∧ (∀ (j : Nat) z, zs[j]? = some z → w.cell? ⟨b, off + j, none⟩ = some (.int .i64 z))

theorem intRow_of_owns {w : World} {base : Nat} {T : TypeId} {v : Value} {zs : List Int} (h : w.ownsRow base T 1 v zs.length (intCells zs)) (hl : zs.length ≤ 9223372036854775807) : IntRow w v zs := by
  rcases h.2 with ⟨rfl, h0⟩ | ⟨g, cap, cur, rfl, _, _, hnc, _, _, _⟩
  · exact Or.inl ⟨List.eq_nil_of_length_eq_zero h0, _, _, rfl⟩
  · refine Or.inr ⟨g, 0, cap, rfl, hl, hnc, fun j p hj => ?_⟩
    have hjl := (List.getElem?_eq_some_iff.1 hj).1
    rw [Nat.zero_add, h.cellAt j (by omega), intCells_at hj]
theorem IntRow.below {w w' : World} {v : Value} {zs : List Int} (h : IntRow w v zs) (hB : Below w.heap.size w w') : IntRow w' v zs := by
  rcases h with ⟨rfl, a, c, rfl⟩ | ⟨b, off, c, rfl, hl, hcap, hc⟩
  · exact Or.inl ⟨rfl, a, c, rfl⟩
  · refine Or.inr ⟨b, off, c, rfl, hl, hcap, fun j p hp => ?_⟩
    exact (hB.cell (p := ⟨b, off + j, none⟩) (World.block_lt_of_cell? w _ (hc j p hp))).trans (hc j p hp)
theorem intRow_form {w : World} {v : Value} {zs : List Int} (h : IntRow w v zs) : ∃ a c, v = .slice a zs.length c ∧ zs.length ≤ 9223372036854775807 ∧ (∀ (q : Nat) z, zs[q]? = some z → ∃ b off, a = some ⟨b, off, none⟩ ∧ w.cell? ⟨b, off + q, none⟩ = some (.int .i64 z)) := by
  rcases h with ⟨rfl, a, c, rfl⟩ | ⟨b, off, c, rfl, hl, _, hc⟩
  · exact ⟨a, c, rfl, by simp, by simp⟩
  · exact ⟨_, c, rfl, hl, fun q p hp => ⟨b, off, rfl, hc q p hp⟩⟩

set_option maxRecDepth 100000 in
theorem eqI_zero (w : World) (a b : Option Addr) (c d : Nat) :
    Calls Try.prog 30 #[.slice a 0 c, .slice b 0 d] w fun e w' => e = .returned (.bool true) ∧ w = w' := by
  go_enter Try.func30, Try.ntmps30
  go_wp2_with fail
  go_loop [5] (fun i => i = .int .i64 0) (fun _ => 0)
  case atStart => rfl
  case round =>
    subst hrel
    go_wp2_with fail
    go_ret
    exact ⟨rfl, rfl⟩

set_option maxRecDepth 100000 in
set_option maxHeartbeats 1000000 in
theorem eqI_some (w : World) (b1 o1 c1 b2 o2 c2 : Nat) (zs : List Int) (hl : zs.length ≤ 9223372036854775807)
    (h1 : ∀ (j : Nat) z, zs[j]? = some z → w.cell? ⟨b1, o1 + j, none⟩ = some (.int .i64 z)) (h2 : ∀ (j : Nat) z, zs[j]? = some z → w.cell? ⟨b2, o2 + j, none⟩ = some (.int .i64 z)) :
    Calls Try.prog 30 #[.slice (some ⟨b1, o1, none⟩) zs.length c1, .slice (some ⟨b2, o2, none⟩) zs.length c2] w fun e w' => e = .returned (.bool true) ∧ ∃ k, w' = w.drewN k := by
  have H1 := Lib.hid h1
  have H2 := Lib.hid h2
  clear h1 h2
  have HN : Hid (∃ n : Nat, zs.length = n) := ⟨_, rfl⟩
  obtain ⟨n, hn⟩ := HN.out
  rw [hn] at hl ⊢
  have HE := Lib.hid hn
  clear hn HN
  go_enter Try.func30, Try.ntmps30
  go_wp2_with fail
  go_loopw [4, 5] (fun _ i wr => ∃ (k q : Nat), k ≤ n ∧ i = .int .i64 k ∧ wr = w.drewN q) (fun _ i _ => n - (intOf i).toNat)
  case atStart => exact ⟨0, 0, Nat.zero_le _, rfl, rfl⟩
  case round =>
    obtain ⟨k, q, hk, rfl, rfl⟩ := hrel
    by_cases hlt : k < n
    · have hk1 : (k : Int) < n := by omega
      have hk0 : (0 : Int) ≤ k := by omega
      obtain ⟨p, hp⟩ : ∃ p, zs[k]? = some p := ⟨_, List.getElem?_eq_getElem (by rw [HE.out]; exact hlt)⟩
      have hc1 := H1.out k p hp
      have hc2 := H2.out k p hp
      have HP := Lib.hid hp
      clear hp
      go_wp2_with fail
      go_quiet (fail)
      go_wp2_with fail
      go_roundw
      case rel => exact ⟨k + 1, _, by omega, by go_num, rfl⟩
      case measure => simp [intOf]; omega
    · have hk1 : ¬ (k : Int) < n := by omega
      go_wp2_with fail
      go_ret
      exact ⟨rfl, q, rfl⟩

/-- TWO LISTS OF NUMBERS THAT READ ALIKE ARE EQUAL. -/
theorem eqI (w : World) (v1 v2 : Value) (zs : List Int) (h1 : IntRow w v1 zs) (h2 : IntRow w v2 zs) :
    Calls Try.prog 30 #[v1, v2] w fun e w' => e = .returned (.bool true) ∧ ∃ k, w' = w.drewN k := by
  rcases h1 with ⟨rfl, a, c, rfl⟩ | ⟨b1, o1, c1, rfl, hl, _, h1⟩
  · rcases h2 with ⟨_, b, d, rfl⟩ | ⟨b2, o2, c2, rfl, _, _, _⟩
    · exact (eqI_zero w a b c d).mono fun e w' ⟨he, hw⟩ => ⟨he, 0, hw ▸ rfl⟩
    · exact (eqI_zero w a _ c c2).mono fun e w' ⟨he, hw⟩ => ⟨he, 0, hw ▸ rfl⟩
  · rcases h2 with ⟨rfl, b, d, rfl⟩ | ⟨b2, o2, c2, rfl, _, _, h2⟩
    · exact (eqI_zero w _ b c1 d).mono fun e w' ⟨he, hw⟩ => ⟨he, 0, hw ▸ rfl⟩
    · exact eqI_some w b1 o1 c1 b2 o2 c2 zs hl h1 h2

theorem ret_intI {a b : Int} (h : a = b) : Ending.returned (.int .i64 a) = .returned (.int .i64 b) := by rw [h]

set_option maxRecDepth 100000 in
theorem szI_not (w : World) (a : Option Addr) (n c left : Nat) (hleft : left ≤ 1048576) (hn : n ≤ 9223372036854775807) (h : left < n) :
    Calls Try.prog 68 #[.slice a n c, .int .i64 left] w fun e w' => e = .returned (.int .i64 (-1)) ∧ w = w' := by
  have h0 : (left : Int) - n < 0 := by omega
  go_enter Try.func68, Try.ntmps68
  go_wp2_with fail
  go_ret
  exact ⟨rfl, rfl⟩
set_option maxRecDepth 100000 in
theorem szI_fits (w : World) (a : Option Addr) (n c left : Nat) (hleft : left ≤ 1048576) (h : n ≤ left) :
    Calls Try.prog 68 #[.slice a n c, .int .i64 left] w fun e w' => e = .returned (.int .i64 ((left - n : Nat) : Int)) ∧ w = w' := by
  have h0 : ¬ (left : Int) - n < 0 := by omega
  go_enter Try.func68, Try.ntmps68
  go_wp2_with fail
  go_ret
  exact ⟨ret_intI (by omega), rfl⟩

/-- The first j cells of a row are the numbers zs. -/
def FilledI (w : World) (base : Nat) (v : Value) (n : Nat) (zs : List Int) (j : Nat) : Prop := ∃ xs : List Value, w.ownsRow base 3 1 v n xs ∧ ∀ i p, i < j → zs[i]? = some p → xs[i]? = some (.int .i64 p)
theorem FilledI.cell {w : World} {base g cap : Nat} {n j : Nat} {zs : List Int} (h : FilledI w base (.slice (some ⟨g, 0, none⟩) n cap) n zs j) {i : Nat} (hi : i < n) : (∃ x, w.cell? ⟨g, i, none⟩ = some x) ∧ w.frozen? ⟨g, i, none⟩ = false := by
  obtain ⟨xs, ho, hx⟩ := h
  have hxl := ho.1
  refine ⟨⟨xs[i]'(by omega), ?_⟩, ho.frozenAt i⟩
  rw [ho.cellAt i (by omega), List.getElem?_eq_getElem (by omega)]
theorem FilledI.store {w : World} {base g cap : Nat} {n j : Nat} {zs : List Int} {p : Int} (h : FilledI w base (.slice (some ⟨g, 0, none⟩) n cap) n zs j) (hj : j < n) (hp : zs[j]? = some p) :
    FilledI (w.setCell ⟨g, j, none⟩ (.int .i64 p)) base (.slice (some ⟨g, 0, none⟩) n cap) n zs (j + 1) ∧ w.grownBy (w.setCell ⟨g, j, none⟩ (.int .i64 p)) (some g) := by
  obtain ⟨xs, ho, hx⟩ := h
  have hs := ho.stored j (.int .i64 p)
  have hxl := ho.1
  refine ⟨⟨_, hs.1, fun i q hi hq => ?_⟩, hs.2⟩
  rw [List.getElem?_set]
  by_cases e : j = i
  · subst e
    rw [hp] at hq
    obtain rfl := Option.some.inj hq
    rw [if_pos rfl, if_pos (by omega)]
  · rw [if_neg e]
    exact hx i q (by omega) hq
theorem FilledI.done {w : World} {base : Nat} {v : Value} {zs : List Int} (h : FilledI w base v zs.length zs zs.length) : w.ownsRow base 3 1 v zs.length (intCells zs) := by
  obtain ⟨xs, ho, hx⟩ := h
  have e : xs = intCells zs := by
    refine List.ext_getElem? fun i => ?_
    have hxl := ho.1
    by_cases hi : i < zs.length
    · rw [hx i zs[i] hi (List.getElem?_eq_getElem hi), intCells_at (List.getElem?_eq_getElem hi)]
    · rw [List.getElem?_eq_none (by omega), List.getElem?_eq_none (by rw [intCells_len]; omega)]
  rw [e] at ho
  exact ho

set_option maxRecDepth 100000 in
set_option maxHeartbeats 1000000 in
theorem toI_some (w : World) (b off c : Nat) (zs : List Int) (hl : zs.length ≤ 1048576)
    (hc : ∀ (j : Nat) p, zs[j]? = some p → w.cell? ⟨b, off + j, none⟩ = some (.int .i64 p)) :
    Calls Try.prog 29 #[.slice (some ⟨b, off, none⟩) zs.length c] w fun e w' => ∃ v, e = .returned v ∧ w'.ownsRow w.heap.size 3 1 v zs.length (intCells zs) ∧ Below w.heap.size w w' := by
  obtain ⟨i0, hi, hz0, hz1, hz2⟩ := info_parts infoInt
  have HC := Lib.hid hc
  clear hc
  have HF : Hid (∀ (w' : World) (v : Value) (n : Nat), zs.length = n → FilledI w' w.heap.size v n zs n → w'.ownsRow w.heap.size 3 1 v n (intCells zs)) := fun w' v n hn h => by
    subst hn; exact h.done
  obtain ⟨n, hn⟩ : ∃ n : Nat, zs.length = n := ⟨_, rfl⟩
  rw [hn] at hl ⊢
  have HE := Lib.hid hn
  clear hn
  go_enter Try.func29, Try.ntmps29
  go_wp2_with (at_make; refine wpList_make_full _ rfl _ _ 24 rfl w.heap.size 3 i0 (.int .i64 0) 1 Try.underlying24 hi hz0 hz1 .i64 .i64 _ _ n rfl rfl rfl rfl ?c1 ?c2 ?c3 ?_)
  case c1 => rw [hz2]; omega
  case c2 => unfold maxLen; omega
  case c3 => exact Nat.le_refl _
  intro w1 hown hg1
  have hB1 : Below w.heap.size w w1 := (Below.refl w.heap.size w).grown hg1 (Nat.le_refl _) (fun k hk => by cases hk)
  have hF1 : FilledI w1 w.heap.size (.slice (some ⟨w.heap.size, 0, none⟩) n n) n zs 0 := ⟨_, hown, fun i p hi => by omega⟩
  clear hown hg1
  go_wp2_with fail
  go_loopw [4] (fun i wr => ∃ (j : Nat), j ≤ n ∧ i = .int .i64 j ∧ FilledI wr w.heap.size (.slice (some ⟨w.heap.size, 0, none⟩) n n) n zs j ∧ Below w.heap.size w wr) (fun i _ => n - (intOf i).toNat)
  case atStart => exact ⟨0, Nat.zero_le _, rfl, hF1, hB1⟩
  case round =>
    obtain ⟨j, hj, rfl, hF, hB⟩ := hrel
    by_cases hlt : j < n
    · have hj1 : (j : Int) < n := by omega
      have hj0 : (0 : Int) ≤ j := by omega
      obtain ⟨p, hp⟩ : ∃ p, zs[j]? = some p := ⟨_, List.getElem?_eq_getElem (by rw [HE.out]; exact hlt)⟩
      have hcj0 := HC.out j p hp
      have hcj := (hB.cell (p := ⟨b, off + j, none⟩) (World.block_lt_of_cell? w _ hcj0)).trans hcj0
      obtain ⟨⟨x, hcx⟩, hfx⟩ := hF.cell hlt
      have HS := Lib.hid (hF.store hlt hp).1
      have HB := Lib.hid (hB.setCell (p := ⟨w.heap.size, j, none⟩) (Nat.le_refl _) (.int .i64 p))
      clear hF hp hcj0 hB hF1 hB1
      go_wp2_with fail
      go_roundw
      case rel => exact ⟨j + 1, by omega, by go_num, HS.out, HB.out⟩
      case measure => simp [intOf]; omega
    · obtain rfl : j = n := by omega
      have hj1 : ¬ (j : Int) < j := by omega
      go_wp2_with fail
      go_ret
      exact ⟨_, rfl, HF.out _ _ _ HE.out hF, hB⟩
set_option maxRecDepth 100000 in
theorem toI_zero (w : World) (a : Option Addr) (c : Nat) :
    Calls Try.prog 29 #[.slice a 0 c] w fun e w' => ∃ v, e = .returned v ∧ w'.ownsRow w.heap.size 3 1 v 0 [] ∧ Below w.heap.size w w' := by
  obtain ⟨i0, hi, hz0, hz1, hz2⟩ := info_parts infoInt
  go_enter Try.func29, Try.ntmps29
  go_wp2_with (at_make; refine wpList_make_full _ rfl _ _ 24 rfl w.heap.size 3 i0 (.int .i64 0) 1 Try.underlying24 hi hz0 hz1 .i64 .i64 _ _ 0 rfl rfl rfl rfl ?c1 ?c2 ?c3 ?_)
  case c1 => omega
  case c2 => unfold maxLen; omega
  case c3 => exact Nat.le_refl _
  intro w1 hown hg1
  have hB1 : Below w.heap.size w w1 := (Below.refl w.heap.size w).grown hg1 (Nat.le_refl _) (fun k hk => by cases hk)
  have hown0 : w1.ownsRow w.heap.size 3 1 (.slice (some ⟨w.heap.size, 0, none⟩) 0 0) 0 [] := by simpa [madeCells] using hown
  clear hg1 hown
  go_wp2_with fail
  go_loop [4] (fun i => i = .int .i64 0) (fun _ => 0)
  case atStart => rfl
  case round =>
    subst hrel
    go_wp2_with fail
    go_ret
    exact ⟨_, rfl, hown0, hB1⟩
/-- THE COPY OF A LIST OF NUMBERS. -/
theorem toI (w : World) (v : Value) (zs : List Int) (h : IntRow w v zs) (hl : zs.length ≤ 1048576) :
    Calls Try.prog 29 #[v] w fun e w' => ∃ v, e = .returned v ∧ w'.ownsRow w.heap.size 3 1 v zs.length (intCells zs) ∧ Below w.heap.size w w' := by
  rcases h with ⟨rfl, a, c, rfl⟩ | ⟨b, off, c, rfl, _, _, hc⟩
  · exact toI_zero w a c
  · exact toI_some w b off c zs hl hc

/-- The marks of numbers from k on, j of them. -/
def marksI (k j : Nat) : List Int := (List.range j).map fun i => ((k + i : Nat) : Int)
theorem marksI_len (k j : Nat) : (marksI k j).length = j := by simp [marksI]
theorem marksI_at {k j i : Nat} (h : i < j) : (marksI k j)[i]? = some ((k + i : Nat) : Int) := by simp [marksI, h]
theorem FilledI.below {w w' : World} {base n j : Nat} {v : Value} {zs : List Int} (h : FilledI w base v n zs j) (hB : Below w.heap.size w w') : FilledI w' base v n zs j := by
  obtain ⟨xs, ho, hx⟩ := h
  exact ⟨xs, ho.kept (row := none) ⟨hB.os, hB.tape, hB.output, hB.size, fun k hk _ => hB.block k hk⟩ (by cases hv : v.ownBlock <;> simp), hx⟩

set_option maxRecDepth 100000 in
set_option maxHeartbeats 1000000 in
theorem markI_some (w : World) (base g n cap k : Nat) (xs : List Value) (hown : w.ownsRow base 3 1 (.slice (some ⟨g, 0, none⟩) n cap) n xs) (hl : n ≤ 140737488355328) (hkl : k ≤ 140737488355328) :
    Calls Try.prog 75 #[.slice (some ⟨g, 0, none⟩) n cap, .int .i64 k] w fun e w' => e = .returned (.int .i64 ((k : Int) + n)) ∧ FilledI w' base (.slice (some ⟨g, 0, none⟩) n cap) n (marksI k n) n ∧ w.grownBy w' (some g) := by
  go_enter Try.func75, Try.ntmps75
  go_wp2_with fail
  go_loopw [1, 5] (fun q i wr => ∃ (j : Nat), j ≤ n ∧ i = .int .i64 j ∧ q = .int .i64 ((k : Int) + j) ∧ FilledI wr base (.slice (some ⟨g, 0, none⟩) n cap) n (marksI k n) j ∧ w.grownBy wr (some g)) (fun _ i _ => n - (intOf i).toNat)
  case atStart => exact ⟨0, Nat.zero_le _, rfl, by simp, ⟨xs, hown, fun i p hi => by omega⟩, grownBy_refl _ _⟩
  case round =>
    obtain ⟨j, hj, rfl, rfl, hF, hg⟩ := hrel
    by_cases hlt : j < n
    · have hj1 : (j : Int) < n := by omega
      have hj0 : (0 : Int) ≤ j := by omega
      obtain ⟨⟨x, hcx⟩, hfx⟩ := hF.cell hlt
      have hS := hF.store hlt (marksI_at hlt)
      rw [show ((k + j : Nat) : Int) = (k : Int) + j by omega] at hS
      have HS := Lib.hid hS.1
      have HG := Lib.hid (grownBy_trans hg hS.2)
      clear hS hF hg
      go_wp2_with fail
      go_roundw
      case rel => exact ⟨j + 1, by omega, by go_num, by go_num, HS.out, HG.out⟩
      case measure => simp [intOf]; omega
    · obtain rfl : j = n := by omega
      have hj1 : ¬ (j : Int) < j := by omega
      go_wp2_with fail
      go_ret
      exact ⟨rfl, hF, hg⟩
set_option maxRecDepth 100000 in
theorem markI_nil (w : World) (c k : Nat) :
    Calls Try.prog 75 #[.slice none 0 c, .int .i64 k] w fun e w' => e = .returned (.int .i64 k) ∧ w = w' := by
  go_enter Try.func75, Try.ntmps75
  go_wp2_with fail
  go_loop [1, 5] (fun q i => q = .int .i64 k ∧ i = .int .i64 0) (fun _ _ => 0)
  case atStart => exact ⟨rfl, rfl⟩
  case round =>
    obtain ⟨rfl, rfl⟩ := hrel
    go_wp2_with fail
    go_ret
    exact ⟨rfl, rfl⟩
/-- MARKING NUMBERS OF THE CALL's OWN. -/
theorem markI (w : World) (base n k : Nat) (v : Value) (xs : List Value) (hown : w.ownsRow base 3 1 v n xs) (hl : n ≤ 140737488355328) (hkl : k ≤ 140737488355328) :
    Calls Try.prog 75 #[v, .int .i64 k] w fun e w' => e = .returned (.int .i64 ((k : Int) + n)) ∧ w'.ownsRow base 3 1 v n (intCells (marksI k n)) ∧ w.grownBy w' v.ownBlock := by
  have hdone : ∀ (w' : World) (v : Value), FilledI w' base v n (marksI k n) n → w'.ownsRow base 3 1 v n (intCells (marksI k n)) := fun w' v h => by
    have hn := marksI_len k n
    have h2 : FilledI w' base v (marksI k n).length (marksI k n) (marksI k n).length := by rw [hn]; exact h
    have h3 := h2.done
    rw [hn] at h3
    exact h3
  rcases hown.2 with ⟨rfl, rfl⟩ | ⟨g, cap, cur, rfl, _⟩
  · exact (markI_nil w 0 k).mono fun e w' ⟨he, hw⟩ => ⟨by rw [he]; simp, hw ▸ by simpa [marksI, intCells] using World.ownsRow_nil w base 3 1, hw ▸ grownBy_refl _ _⟩
  · exact (markI_some w base g n cap k xs hown hl hkl).mono fun e w' ⟨he, hF, hg⟩ => ⟨he, hdone w' _ hF, hg⟩

set_option maxRecDepth 100000 in
set_option maxHeartbeats 1000000 in
theorem heldI_some (w : World) (b off c n k : Nat) (hl : n ≤ 140737488355328) (hkl : k ≤ 140737488355328)
    (hc : ∀ j, j < n → w.cell? ⟨b, off + j, none⟩ = some (.int .i64 ((k : Int) + j))) :
    Calls Try.prog 93 #[.slice (some ⟨b, off, none⟩) n c, .int .i64 k] w fun e w' => e = .returned (.int .i64 ((k : Int) + n)) ∧ ∃ q, w' = w.drewN q := by
  have HC := Lib.hid hc
  clear hc
  go_enter Try.func93, Try.ntmps93
  go_wp2_with fail
  go_loopw [1, 4, 5] (fun q _ i wr => ∃ (j z : Nat), j ≤ n ∧ i = .int .i64 j ∧ q = .int .i64 ((k : Int) + j) ∧ wr = w.drewN z) (fun _ _ i _ => n - (intOf i).toNat)
  case atStart => exact ⟨0, 0, Nat.zero_le _, rfl, by simp, rfl⟩
  case round =>
    obtain ⟨j, z, hj, rfl, rfl, rfl⟩ := hrel
    by_cases hlt : j < n
    · have hj1 : (j : Int) < n := by omega
      have hj0 : (0 : Int) ≤ j := by omega
      have hcj := HC.out j hlt
      go_wp2_with fail
      go_roundw
      case rel => exact ⟨j + 1, _, by omega, by go_num, by go_num, rfl⟩
      case measure => simp [intOf]; omega
    · obtain rfl : j = n := by omega
      have hj1 : ¬ (j : Int) < j := by omega
      go_wp2_with fail
      go_ret
      exact ⟨rfl, z, rfl⟩
set_option maxRecDepth 100000 in
theorem heldI_zero (w : World) (a : Option Addr) (c k : Nat) :
    Calls Try.prog 93 #[.slice a 0 c, .int .i64 k] w fun e w' => e = .returned (.int .i64 k) ∧ w = w' := by
  go_enter Try.func93, Try.ntmps93
  go_wp2_with fail
  go_loop [1, 4, 5] (fun q _ i => q = .int .i64 k ∧ i = .int .i64 0) (fun _ _ _ => 0)
  case atStart => exact ⟨rfl, rfl⟩
  case round =>
    obtain ⟨rfl, rfl⟩ := hrel
    go_wp2_with fail
    go_ret
    exact ⟨rfl, rfl⟩
/-- THE MARKS OF NUMBERS ARE HELD. -/
theorem heldI (w : World) (v : Value) (n k : Nat) (h : IntRow w v (marksI k n)) (hkl : k ≤ 140737488355328) (hnl : n ≤ 140737488355328) :
    Calls Try.prog 93 #[v, .int .i64 k] w fun e w' => e = .returned (.int .i64 ((k : Int) + n)) ∧ ∃ q, w' = w.drewN q := by
  have hn := marksI_len k n
  rcases h with ⟨h0, a, c, rfl⟩ | ⟨b, off, c, rfl, hl, _, hc⟩
  · rw [h0] at hn
    have hn0 : n = 0 := by simpa using hn.symm
    subst hn0
    exact (heldI_zero w a c k).mono fun e w' ⟨he, hw⟩ => ⟨by rw [he]; simp, 0, hw ▸ rfl⟩
  · rw [hn] at hl ⊢
    exact heldI_some w b off c n k hnl hkl (fun j hj => by
      rw [hc j _ (marksI_at hj)]
      congr 2)
end Go.Proofs.Ytgknkjiifcnkpaa
namespace Go.Proofs.Ytgknkjiifcnkpaa
open Go.RowKit

/-- Settings. -/
structure Cfg where
  r : Int
  d : Int
  b : Int
  l : Int
  m : Int
  n : Int
  e : Int
  s : List Int
def usualC : Cfg := ⟨4, 2, 4, 1, 1, 1, 1, []⟩
def zeroC : Cfg := ⟨0, 0, 0, 0, 0, 0, 0, []⟩
def inZ (x lo hi : Int) : Bool := decide (lo ≤ x ∧ x ≤ hi)
theorem inZ_iff {x lo hi : Int} : inZ x lo hi = true ↔ lo ≤ x ∧ x ≤ hi := by simp [inZ]
/-- Whether settings are right. -/
def okC (C : Cfg) : Bool := inZ C.r 1 8 && inZ C.d 0 4 && inZ C.b 2 8 && inZ C.l 1 100 && inZ C.m 1 20 && C.s.all (fun z => inZ z (-1) 1) && (inZ C.e 1 1000 && inZ C.n 1 C.e && decide (C.s.length ≤ 4))
/-- A sign's text. -/
def sgnT (z : Int) : List UInt8 := if z = -1 then [45] else if z = 0 then [48] else [43]
def wordsL : List (List UInt8) := [[114, 111, 117, 110, 100, 115], [100, 101, 112, 116, 104], [98, 105, 110, 115], [108, 97, 109, 98, 100, 97], [114, 111, 119, 115], [114, 97, 116, 101], [115, 105, 103, 110, 115]]
def wordL (k : Nat) : List UInt8 := wordsL.getD k []
/-- The number that a key stands for. -/
def numC (k : Nat) (C : Cfg) : Int := match k with | 0 => C.r | 1 => C.d | 2 => C.b | 3 => C.l | _ => C.m
/-- What stands behind a key's sign of equality. -/
def valueL (k : Nat) (C : Cfg) : List UInt8 :=
  if k = 6 then Lib.join (C.s.map sgnT) [44] else if k = 5 then Lib.itoa C.n ++ [47] ++ Lib.itoa C.e else Lib.itoa (numC k C)
/-- A key's line, without its end. -/
def lineL (k : Nat) (C : Cfg) : List UInt8 := wordL k ++ 61 :: valueL k C
/-- The keys of a text's lines. -/
def keysC (C : Cfg) : List Nat := if C.s = [] then [0, 1, 2, 3, 4, 5] else [0, 1, 2, 3, 4, 5, 6]
/-- Lines, each with its end. -/
def linesT : List (List UInt8) → List UInt8
  | [] => []
  | a :: r => a ++ 10 :: linesT r
/-- The text of settings. -/
def textC (C : Cfg) : List UInt8 := if okC C = true then linesT ((keysC C).map fun k => lineL k C) else []

/-- A line's two sides. -/
def splitEq : List UInt8 → Option (List UInt8 × List UInt8)
  | [] => none
  | c :: r => if c = 61 then some ([], r) else (splitEq r).map fun p => (c :: p.1, p.2)
/-- Which key a word is. -/
def wordOf (l : List UInt8) : Option Nat := (List.range 7).find? fun k => wordL k == l
def leastC (k : Nat) : Int := match k with | 0 => 1 | 1 => 0 | 2 => 2 | 3 => 1 | _ => 1
def mostC (k : Nat) : Int := match k with | 0 => 8 | 1 => 4 | 2 => 8 | 3 => 100 | _ => 20
def setC (k : Nat) (z : Int) (C : Cfg) : Cfg := match k with | 0 => { C with r := z } | 1 => { C with d := z } | 2 => { C with b := z } | 3 => { C with l := z } | _ => { C with m := z }
/-- What a rate's text says. -/
noncomputable def rateV (l : List UInt8) : Int × Int × Nat :=
  match partsL 47 l with
  | [a, b] =>
    match numV a, numV b with
    | some n, some d => if inZ n 1 1000 = true ∧ inZ d 1 1000 = true ∧ n ≤ d then (n, d, 0) else (0, 0, 13)
    | _, _ => (0, 0, 12)
  | _ => (0, 0, 12)
def sgnV (l : List UInt8) : Option Int := if l = [43] then some 1 else if l = [48] then some 0 else if l = [45] then some (-1) else none
def sgnsV : List (List UInt8) → Option (List Int)
  | [] => some []
  | a :: r => match sgnV a, sgnsV r with | some z, some t => some (z :: t) | _, _ => none
/-- What the text of signs says. -/
def signsV (l : List UInt8) : Option (List Int) := if 4 < (partsL 44 l).length then none else sgnsV (partsL 44 l)
/-- What a line lays. -/
noncomputable def layV (C : Cfg) (k : Nat) (l : List UInt8) : Cfg × Nat :=
  if k = 6 then (match signsV l with | some s => ({ C with s := s }, 0) | none => ({ C with s := [] }, 14))
  else if k = 5 then ({ C with n := (rateV l).1, e := (rateV l).2.1 }, (rateV l).2.2)
  else match numV l with | none => (C, 12) | some z => (setC k z C, if inZ z (leastC k) (mostC k) = true then 0 else 13)
/-- The lines, one by one. -/
noncomputable def goC : List (List UInt8) → Nat → List Nat → Cfg → Cfg × Nat × Nat
  | [], _, _, C => (C, 0, 0)
  | x :: t, i, met, C =>
    if x = [] then goC t (i + 1) met C else
    match splitEq x with
    | none => (zeroC, 10, i)
    | some (a, v) =>
      match wordOf a with
      | none => (zeroC, 11, i)
      | some k =>
        if k ∈ met then (zeroC, 6, i)
        else if (layV C k v).2 = 0 then goC t (i + 1) (k :: met) (layV C k v).1 else (zeroC, (layV C k v).2, i)
/-- What reading settings answers: the settings, and the fault's two numbers. -/
noncomputable def readC (l : List UInt8) : Cfg × Nat × Nat := if 4000 < l.length then (zeroC, 1, 0) else goC (partsL 10 l) 0 [] usualC

theorem splitEq_at : ∀ {a : List UInt8} (v : List UInt8), (∀ x ∈ a, x ≠ 61) → splitEq (a ++ 61 :: v) = some (a, v)
  | [], v, _ => by rw [List.nil_append, splitEq, if_pos rfl]
  | c :: r, v, h => by
    rw [List.cons_append, splitEq, if_neg (h c (by simp)), splitEq_at v (fun x hx => h x (by simp [hx]))]
    rfl
theorem wordL_ok : ∀ k, k < 7 → (∀ x ∈ wordL k, x ≠ 61 ∧ x ≠ 10) ∧ wordOf (wordL k) = some k ∧ (wordL k).length ≤ 6 := by decide
theorem wordOf_lt {l : List UInt8} {k : Nat} (h : wordOf l = some k) : k < 7 ∧ wordL k = l := by
  have h1 := List.mem_of_find?_eq_some h
  have h2 := List.find?_some h
  exact ⟨List.mem_range.1 h1, by simpa using h2⟩

theorem itoa_dig {z : Int} (h0 : 0 ≤ z) : ∀ x ∈ Lib.itoa z, isDig x := by
  obtain ⟨u, rfl⟩ := Int.eq_ofNat_of_zero_le h0
  rw [Lib.itoa_nonneg]
  exact decDigits_dig u
theorem dig_ne {x c : UInt8} (h : isDig x) (hc : c.toNat < 48) : x ≠ c := by
  intro e
  rw [e] at h
  have := h.1
  omega
theorem isNum_itoa {z : Int} (h0 : 0 ≤ z) (h1 : z ≤ 999999999) : IsNum (Lib.itoa z) z := ⟨by omega, by omega, rfl⟩
theorem numV_itoa {z : Int} (h0 : 0 ≤ z) (h1 : z ≤ 999999999) : numV (Lib.itoa z) = some z := numV_some (isNum_itoa h0 h1) h0 h1

/-- What right settings' numbers keep to. -/
theorem okC_iff {C : Cfg} : okC C = true ↔ (1 ≤ C.r ∧ C.r ≤ 8) ∧ (0 ≤ C.d ∧ C.d ≤ 4) ∧ (2 ≤ C.b ∧ C.b ≤ 8) ∧ (1 ≤ C.l ∧ C.l ≤ 100) ∧ (1 ≤ C.m ∧ C.m ≤ 20) ∧ (∀ z ∈ C.s, -1 ≤ z ∧ z ≤ 1) ∧ (1 ≤ C.e ∧ C.e ≤ 1000) ∧ (1 ≤ C.n ∧ C.n ≤ C.e) ∧ C.s.length ≤ 4 := by
  simp only [okC, Bool.and_eq_true, inZ_iff, List.all_eq_true, decide_eq_true_eq]
  constructor
  · rintro ⟨⟨⟨⟨⟨⟨h1, h2⟩, h3⟩, h4⟩, h5⟩, h6⟩, ⟨h7, h8⟩, h9⟩
    exact ⟨h1, h2, h3, h4, h5, h6, h7, h8, h9⟩
  · rintro ⟨h1, h2, h3, h4, h5, h6, h7, h8, h9⟩
    exact ⟨⟨⟨⟨⟨⟨h1, h2⟩, h3⟩, h4⟩, h5⟩, h6⟩, ⟨h7, h8⟩, h9⟩
theorem okC_usual : okC usualC = true := by decide

theorem parts_joined (c : UInt8) : ∀ (L : List (List UInt8)), L ≠ [] → (∀ a ∈ L, ∀ x ∈ a, x ≠ c) → partsL c (Lib.join L [c]) = L
  | [], h, _ => absurd rfl h
  | [a], _, h => by
    rw [Lib.join_one]
    exact parts_none (h a (by simp))
  | a :: b :: r, _, h => by
    have ih := parts_joined c (b :: r) (by simp) (fun x hx => h x (by simp [hx]))
    have e : Lib.join (a :: b :: r) [c] = a ++ c :: Lib.join (b :: r) [c] := by rw [Lib.join_cons, Lib.join_cons]; simp [Lib.joinTail]
    rw [e, parts_cut _ (h a (by simp)), ih]
theorem parts_lines : ∀ (L : List (List UInt8)), (∀ a ∈ L, ∀ x ∈ a, x ≠ 10) → partsL 10 (linesT L) = L ++ [[]]
  | [], _ => by rw [linesT]; exact parts_none (by simp)
  | a :: r, h => by
    rw [linesT, parts_cut _ (h a (by simp)), parts_lines r (fun x hx => h x (by simp [hx]))]
    rfl
theorem rateV_text {n e : Int} (h1 : 1 ≤ n) (h2 : n ≤ e) (h3 : e ≤ 1000) : rateV (Lib.itoa n ++ [47] ++ Lib.itoa e) = (n, e, 0) := by
  have hp : partsL 47 (Lib.itoa n ++ [47] ++ Lib.itoa e) = [Lib.itoa n, Lib.itoa e] := by
    rw [List.append_assoc, List.singleton_append, parts_cut _ (fun x hx => dig_ne (itoa_dig (by omega) x hx) (by decide)), parts_none (fun x hx => dig_ne (itoa_dig (by omega) x hx) (by decide))]
  rw [rateV, hp]
  simp only
  rw [numV_itoa (by omega) (by omega), numV_itoa (by omega) (by omega)]
  simp only
  rw [if_pos ⟨inZ_iff.2 ⟨by omega, by omega⟩, inZ_iff.2 ⟨by omega, by omega⟩, h2⟩]
theorem sgnT_ne {z : Int} : ∀ x ∈ sgnT z, x ≠ 44 ∧ x ≠ 10 := by
  intro x hx
  unfold sgnT at hx
  split at hx
  · simp at hx; subst hx; decide
  · split at hx
    · simp at hx; subst hx; decide
    · simp at hx; subst hx; decide
theorem sgnV_text {z : Int} (h0 : -1 ≤ z) (h1 : z ≤ 1) : sgnV (sgnT z) = some z := by
  rcases (by omega : z = -1 ∨ z = 0 ∨ z = 1) with rfl | rfl | rfl <;> rfl
theorem sgnsV_text : ∀ (s : List Int), (∀ z ∈ s, -1 ≤ z ∧ z ≤ 1) → sgnsV (s.map sgnT) = some s
  | [], _ => rfl
  | z :: t, h => by
    have h1 := h z (by simp)
    rw [List.map_cons, sgnsV, sgnV_text h1.1 h1.2, sgnsV_text t (fun x hx => h x (by simp [hx]))]
theorem signs_parts {s : List Int} (hne : s ≠ []) : partsL 44 (Lib.join (s.map sgnT) [44]) = s.map sgnT :=
  parts_joined 44 _ (by simpa using hne) (fun a ha x hx => by
    obtain ⟨z, _, rfl⟩ := List.mem_map.1 ha
    exact (sgnT_ne x hx).1)
theorem signsV_text {s : List Int} (h : ∀ z ∈ s, -1 ≤ z ∧ z ≤ 1) (hl : s.length ≤ 4) (hne : s ≠ []) : signsV (Lib.join (s.map sgnT) [44]) = some s := by
  rw [signsV, signs_parts hne, if_neg (by rw [List.length_map]; omega), sgnsV_text s h]

/-- One key's field of C, laid into D. -/
def putC (k : Nat) (D C : Cfg) : Cfg := if k = 6 then { D with s := C.s } else if k = 5 then { D with n := C.n, e := C.e } else setC k (numC k C) D
theorem num_range {C : Cfg} (h : okC C = true) {k : Nat} (hk : k < 5) : leastC k ≤ numC k C ∧ numC k C ≤ mostC k ∧ 0 ≤ numC k C ∧ numC k C ≤ 1000 := by
  have ho := okC_iff.1 h
  rcases (by omega : k = 0 ∨ k = 1 ∨ k = 2 ∨ k = 3 ∨ k = 4) with rfl | rfl | rfl | rfl | rfl <;> simp only [leastC, mostC, numC] <;> omega
theorem layV_text {C : Cfg} (h : okC C = true) (D : Cfg) {k : Nat} (hk : k < 7) (hs : k = 6 → C.s ≠ []) : layV D k (valueL k C) = (putC k D C, 0) := by
  have ho := okC_iff.1 h
  unfold layV valueL putC
  by_cases h6 : k = 6
  · rw [if_pos h6, if_pos h6, if_pos h6, signsV_text ho.2.2.2.2.2.1 ho.2.2.2.2.2.2.2.2 (hs h6)]
  · rw [if_neg h6, if_neg h6, if_neg h6]
    by_cases h5 : k = 5
    · rw [if_pos h5, if_pos h5, if_pos h5, rateV_text ho.2.2.2.2.2.2.2.1.1 ho.2.2.2.2.2.2.2.1.2 ho.2.2.2.2.2.2.1.2]
    · rw [if_neg h5, if_neg h5, if_neg h5]
      have hr := num_range h (by omega : k < 5)
      rw [numV_itoa hr.2.2.1 (by omega)]
      simp only
      rw [if_pos (inZ_iff.2 ⟨hr.1, hr.2.1⟩)]
theorem valueL_ne {C : Cfg} (h : okC C = true) {k : Nat} (hk : k < 7) : ∀ x ∈ valueL k C, x ≠ 10 := by
  have ho := okC_iff.1 h
  intro x hx
  unfold valueL at hx
  split at hx
  · have : ∀ (L : List (List UInt8)), (∀ a ∈ L, ∀ y ∈ a, y ≠ 10) → ∀ y ∈ Lib.join L [44], y ≠ 10 := by
      intro L hL
      match L with
      | [] => simp [Lib.join_nil]
      | a :: r =>
        have ht : ∀ (r : List (List UInt8)), (∀ b ∈ r, ∀ y ∈ b, y ≠ 10) → ∀ y ∈ Lib.joinTail [44] r, y ≠ 10 := by
          intro r hr
          induction r with
          | nil => simp [Lib.joinTail]
          | cons b t ih =>
            intro y hy
            simp only [Lib.joinTail, List.map_cons, List.flatten_cons, List.mem_append, List.mem_singleton] at hy
            rcases hy with (rfl | hy) | hy
            · decide
            · exact hr b (by simp) y hy
            · exact ih (fun c hc => hr c (by simp [hc])) y hy
        intro y hy
        rw [Lib.join_cons, List.mem_append] at hy
        rcases hy with hy | hy
        · exact hL a (by simp) y hy
        · exact ht r (fun b hb => hL b (by simp [hb])) y hy
    exact this _ (fun a ha y hy => by
      obtain ⟨z, _, rfl⟩ := List.mem_map.1 ha
      exact (sgnT_ne y hy).2) x hx
  · split at hx
    · simp only [List.mem_append, List.mem_singleton] at hx
      rcases hx with (hx | rfl) | hx
      · exact dig_ne (itoa_dig (by omega) x hx) (by decide)
      · decide
      · exact dig_ne (itoa_dig (by omega) x hx) (by decide)
    · exact dig_ne (itoa_dig (num_range h (by omega : k < 5)).2.2.1 x hx) (by decide)
theorem lineL_ne {C : Cfg} (h : okC C = true) {k : Nat} (hk : k < 7) : ∀ x ∈ lineL k C, x ≠ 10 := by
  intro x hx
  simp only [lineL, List.mem_append, List.mem_cons] at hx
  rcases hx with hx | rfl | hx
  · exact ((wordL_ok k hk).1 x hx).2
  · decide
  · exact valueL_ne h hk x hx

/-- A line, or an empty one. -/
def lineO (C : Cfg) : Option Nat → List UInt8
  | none => []
  | some k => lineL k C
theorem goC_lines {C : Cfg} (h : okC C = true) : ∀ (ks : List (Option Nat)) (i : Nat) (met : List Nat) (D : Cfg), (∀ k, some k ∈ ks → k < 7 ∧ (k = 6 → C.s ≠ []) ∧ k ∉ met) → (ks.filterMap id).Nodup →
    goC (ks.map (lineO C)) i met D = ((ks.filterMap id).foldl (fun D k => putC k D C) D, 0, 0)
  | [], i, met, D, _, _ => rfl
  | none :: t, i, met, D, hk, hn => by
    rw [List.map_cons, goC, if_pos (show lineO C none = [] from rfl), goC_lines h t (i + 1) met D (fun k hm => hk k (by simp [hm])) (by simpa using hn)]
    rfl
  | some k :: t, i, met, D, hk, hn => by
    obtain ⟨h7, hs, hm⟩ := hk k (by simp)
    have hw := wordL_ok k h7
    have hn2 : k ∉ t.filterMap id ∧ (t.filterMap id).Nodup := by simpa using hn
    have hne : lineO C (some k) ≠ [] := by simp [lineO, lineL]
    have hsp : splitEq (lineO C (some k)) = some (wordL k, valueL k C) := splitEq_at _ (fun x hx => (hw.1 x hx).1)
    rw [List.map_cons, goC, if_neg hne, hsp]
    simp only
    rw [hw.2.1]
    simp only
    rw [if_neg hm, layV_text h D h7 hs, if_pos rfl]
    rw [goC_lines h t (i + 1) (k :: met) _ (fun j hj => ⟨(hk j (by simp [hj])).1, (hk j (by simp [hj])).2.1, fun hmem => by
      rcases List.mem_cons.1 hmem with rfl | hmem
      · exact hn2.1 (List.mem_filterMap.2 ⟨some j, hj, rfl⟩)
      · exact (hk j (by simp [hj])).2.2 hmem⟩) hn2.2]
    rfl
theorem foldC {C : Cfg} : ∀ (ks : List Nat) (D : Cfg), (∀ k ∈ ks, k < 7) → (∀ (F : Cfg), F = ks.foldl (fun D k => putC k D C) D →
    F.r = (if 0 ∈ ks then C.r else D.r) ∧ F.d = (if 1 ∈ ks then C.d else D.d) ∧ F.b = (if 2 ∈ ks then C.b else D.b) ∧ F.l = (if 3 ∈ ks then C.l else D.l) ∧ F.m = (if 4 ∈ ks then C.m else D.m) ∧ F.n = (if 5 ∈ ks then C.n else D.n) ∧ F.e = (if 5 ∈ ks then C.e else D.e) ∧ F.s = (if 6 ∈ ks then C.s else D.s))
  | [], D, _, F, hF => by subst hF; simp
  | k :: t, D, hk, F, hF => by
    have ih := foldC t (putC k D C) (fun j hj => hk j (by simp [hj])) F hF
    have h7 := hk k (by simp)
    rcases (by omega : k = 0 ∨ k = 1 ∨ k = 2 ∨ k = 3 ∨ k = 4 ∨ k = 5 ∨ k = 6) with rfl | rfl | rfl | rfl | rfl | rfl | rfl <;> simp [putC, setC, numC] at ih ⊢ <;> (refine ⟨?_, ?_, ?_, ?_, ?_, ?_, ?_, ?_⟩ <;> first | exact ih.1 | exact ih.2.1 | exact ih.2.2.1 | exact ih.2.2.2.1 | exact ih.2.2.2.2.1 | exact ih.2.2.2.2.2.1 | exact ih.2.2.2.2.2.2.1 | exact ih.2.2.2.2.2.2.2 | (simp only [ih]; split <;> simp_all))
theorem foldC_all {C : Cfg} {ks : List Nat} (hk : ∀ k ∈ ks, k < 7) (h5 : ∀ k, k < 6 → k ∈ ks) (h6 : 6 ∈ ks ∨ C.s = []) : ks.foldl (fun D k => putC k D C) usualC = C := by
  obtain ⟨h0, h1, h2, h3, h4, ha, hb, hc⟩ := foldC (C := C) ks usualC hk _ rfl
  have e : ∀ F : Cfg, F.r = C.r → F.d = C.d → F.b = C.b → F.l = C.l → F.m = C.m → F.n = C.n → F.e = C.e → F.s = C.s → F = C := by
    intro F a b c d e f g h
    cases F
    cases C
    simp_all
  rw [if_pos (h5 _ (by omega))] at h0 h1 h2 h3 h4 ha hb
  refine e _ h0 h1 h2 h3 h4 ha hb ?_
  rcases h6 with h6 | h6
  · rw [if_pos h6] at hc; exact hc
  · rw [hc]
    split
    · rfl
    · rw [h6]; rfl
end Go.Proofs.Ytgknkjiifcnkpaa
namespace Go.Proofs.Ytgknkjiifcnkpaa
open Go.RowKit

/-- A literal list of ints. -/
theorem intList {w : World} {cs : Array Value} {T : TypeId} {n : Nat} (hn : n = cs.size) (h : cs.toList.all (fun v => match v with | .int .i64 z => decide (-9223372036854775808 ≤ z) && decide (z ≤ 9223372036854775807) | _ => false) = true) :
    ∀ j, j < n → ∃ z : Int, -9223372036854775808 ≤ z ∧ z ≤ 9223372036854775807 ∧ (w.alloc (.cells cs T)).cell? ⟨w.heap.size, j, none⟩ = some (.int .i64 z) := by
  subst hn
  intro j hj
  have hb : (w.alloc (.cells cs T)).heap[w.heap.size]? = some (.cells cs T (0, 0)) := by
    show (w.heap.push _)[w.heap.size]? = _
    simp
  rw [cell_blk hb]
  have hm : cs[j] ∈ cs.toList := by simp
  have h1 := List.all_eq_true.1 h _ hm
  rw [Array.getElem?_eq_getElem hj]
  split at h1
  · rename_i z hz
    simp only [Bool.and_eq_true, decide_eq_true_eq] at h1
    exact ⟨z, h1.1, h1.2, by rw [hz]⟩
  · cases h1
theorem strList {w : World} {cs : Array Value} {T : TypeId} {n : Nat} (M : Nat) (hn : n = cs.size) (h : cs.toList.all (fun v => match v with | .string s => decide (s.size ≤ M) | _ => false) = true) :
    ∀ j, j < n → ∃ s : ByteArray, s.size ≤ M ∧ (w.alloc (.cells cs T)).cell? ⟨w.heap.size, j, none⟩ = some (.string s) := by
  subst hn
  intro j hj
  have hb : (w.alloc (.cells cs T)).heap[w.heap.size]? = some (.cells cs T (0, 0)) := by
    show (w.heap.push _)[w.heap.size]? = _
    simp
  rw [cell_blk hb]
  have hm : cs[j] ∈ cs.toList := by simp
  have h1 := List.all_eq_true.1 h _ hm
  rw [Array.getElem?_eq_getElem hj]
  split at h1
  · rename_i z hz
    exact ⟨z, of_decide_eq_true h1, by rw [hz]⟩
  · cases h1

/-- The cursor stands while a new block is laid. -/
theorem Cur.alloc {W w : World} {p : Nat} (h : Cur W w p) (o : Obj) : Cur W (w.alloc o) p := by
  obtain ⟨hp, hB, v, n, i, x, hb, hi, h0, h1, hblk⟩ := h
  have hlt : p < w.heap.size := by
    rcases Nat.lt_or_ge p w.heap.size with hl | hl
    · exact hl
    · rw [Array.getElem?_eq_none hl] at hblk; cases hblk
  exact ⟨hp, hB.alloc hB.size o, v, n, i, x, hb, hi, h0, h1, (Below.heap_alloc w o p hlt).trans hblk⟩
theorem Cur.lt {W w : World} {p : Nat} (h : Cur W w p) : p < w.heap.size := by
  obtain ⟨hp, hB, v, n, i, x, hb, hi, h0, h1, hblk⟩ := h
  rcases Nat.lt_or_ge p w.heap.size with hl | hl
  · exact hl
  · rw [Array.getElem?_eq_none hl] at hblk; cases hblk

theorem grownBy_alloc (w : World) (o : Obj) (r : Option Nat) : w.grownBy (w.alloc o) r :=
  ⟨rfl, rfl, rfl, by simp, fun i hi _ => Below.heap_alloc w o i hi⟩

set_option maxRecDepth 100000 in
set_option maxHeartbeats 2000000 in
theorem l1WholeG (W w : World) (p : Nat) (hc : Cur W w p) :
    Calls Try.prog 51 #[.pointer (some ⟨p, 0, none⟩)] w fun e w' => IntOut e ∧ Cur W w' p ∧ w.grownBy w' (some p) := by
  go_enter Try.func51, Try.ntmps51
  go_wp2_with fail
  refine (l1Below W _ p 4 (by omega) (by omega) hc).mono ?_
  rintro e w1 ⟨⟨m, hm, rfl⟩, hc1, hg1⟩
  have HG1 := Lib.hid hg1
  clear hg1
  have hm4 : m = 0 ∨ m = 1 ∨ m = 2 ∨ m = 3 := by omega
  rcases hm4 with rfl | rfl | rfl | rfl
  · have hne : w1.heap.size ≠ p := by have := hc1.lt; omega
    go_wp2_with fail
    refine (l1PickInt W _ p w1.heap.size 14 (by omega) (by omega) hne ?_ (hc1.alloc _)).mono ?_
    · refine intList ?_ ?_
      · rfl
      · decide
    rintro e w2 ⟨⟨z, z0, z1, rfl⟩, hc2, hg2⟩
    have HG2 := Lib.hid (grownBy_trans HG1.out (grownBy_trans (grownBy_alloc _ _ _) hg2))
    clear hg2
    go_wp2_with fail
    go_ret
    exact ⟨⟨_, z0, z1, rfl⟩, hc2, HG2.out⟩
  · go_wp2_with fail
    go_loopw [3, 4] (fun n i wr => ∃ (k : Nat) (z : Int), k ≤ 8 ∧ i = .int .i64 k ∧ -9223372036854775808 ≤ z ∧ z ≤ 9223372036854775807 ∧ n = .int .i64 z ∧ Cur W wr p ∧ w.grownBy wr (some p)) (fun _ i _ => 8 - (intOf i).toNat)
    case atStart => exact ⟨0, 0, by omega, rfl, by omega, by omega, rfl, hc1, HG1.out⟩
    case round =>
      obtain ⟨k, z, hk, rfl, hz0, hz1, rfl, hcr, hgr⟩ := hrel
      have HGR := Lib.hid hgr
      clear hgr
      by_cases hlt : k < 8
      · have hk8 : (k : Int) < 8 := by omega
        go_wp2_with fail
        refine (l1Byte W _ p hcr).mono ?_
        rintro e w2 ⟨⟨b, hb, rfl⟩, hc2, hg2⟩
        have HG2 := Lib.hid (grownBy_trans HGR.out hg2)
        clear hg2
        go_wp2_with fail
        go_roundw
        case rel => exact ⟨k + 1, _, by omega, by go_num, (wrap64_bounds _).1, (wrap64_bounds _).2, rfl, hc2, HG2.out⟩
        case measure => simp [intOf]; omega
      · have hk8 : ¬ (k : Int) < 8 := by omega
        go_wp2_with fail
        go_ret
        exact ⟨⟨_, hz0, hz1, rfl⟩, hcr, HGR.out⟩
  · go_wp2_with fail
    refine (l1Below W _ p 1000000 (by omega) (by omega) hc1).mono ?_
    rintro e w2 ⟨⟨m, hm, rfl⟩, hc2, hg2⟩
    have HG2 := Lib.hid (grownBy_trans HG1.out hg2)
    clear hg2
    go_wp2_with fail
    go_ret
    exact ⟨⟨_, by omega, by omega, rfl⟩, hc2, HG2.out⟩
  · go_wp2_with fail
    refine (l1Below W _ p 41 (by omega) (by omega) hc1).mono ?_
    rintro e w2 ⟨⟨m, hm, rfl⟩, hc2, hg2⟩
    have HG2 := Lib.hid (grownBy_trans HG1.out hg2)
    clear hg2
    go_wp2_with fail
    go_ret
    exact ⟨⟨_, by omega, by omega, rfl⟩, hc2, HG2.out⟩
theorem l1Whole (W w : World) (p : Nat) (hc : Cur W w p) :
    Calls Try.prog 51 #[.pointer (some ⟨p, 0, none⟩)] w fun e w' => IntOut e ∧ Cur W w' p :=
  (l1WholeG W w p hc).mono fun _ _ h => ⟨h.1, h.2.1⟩

/-- What a whole draw does: it answers, and nothing that was there has turned. -/
theorem cur_below {W w : World} {p : Nat} (h : Cur W w p) : Below W.heap.size W w := h.2.1

end Go.Proofs.Ytgknkjiifcnkpaa
namespace Go.Proofs.Ytgknkjiifcnkpaa
open Go.RowKit

set_option maxRecDepth 100000 in
theorem smI_zero (w : World) (a b : Option Addr) (c d : Nat) :
    Calls Try.prog 15 #[.slice a 0 c, .slice b 0 d] w fun e w' => e = .returned (.bool true) ∧ w = w' := by
  go_enter Try.func15, Try.ntmps15
  go_wp2_with fail
  go_loop [5] (fun i => i = .int .i64 0) (fun _ => 0)
  case atStart => rfl
  case round =>
    subst hrel
    go_wp2_with fail
    go_ret
    exact ⟨rfl, rfl⟩

set_option maxRecDepth 100000 in
set_option maxHeartbeats 1000000 in
theorem smI_some (w : World) (b1 o1 c1 b2 o2 c2 : Nat) (zs : List Int) (hl : zs.length ≤ 9223372036854775807)
    (h1 : ∀ (j : Nat) z, zs[j]? = some z → w.cell? ⟨b1, o1 + j, none⟩ = some (.int .i64 z)) (h2 : ∀ (j : Nat) z, zs[j]? = some z → w.cell? ⟨b2, o2 + j, none⟩ = some (.int .i64 z)) :
    Calls Try.prog 15 #[.slice (some ⟨b1, o1, none⟩) zs.length c1, .slice (some ⟨b2, o2, none⟩) zs.length c2] w fun e w' => e = .returned (.bool true) ∧ ∃ k, w' = w.drewN k := by
  have H1 := Lib.hid h1
  have H2 := Lib.hid h2
  clear h1 h2
  have HN : Hid (∃ n : Nat, zs.length = n) := ⟨_, rfl⟩
  obtain ⟨n, hn⟩ := HN.out
  rw [hn] at hl ⊢
  have HE := Lib.hid hn
  clear hn HN
  go_enter Try.func15, Try.ntmps15
  go_wp2_with fail
  go_loopw [4, 5] (fun _ i wr => ∃ (k q : Nat), k ≤ n ∧ i = .int .i64 k ∧ wr = w.drewN q) (fun _ i _ => n - (intOf i).toNat)
  case atStart => exact ⟨0, 0, Nat.zero_le _, rfl, rfl⟩
  case round =>
    obtain ⟨k, q, hk, rfl, rfl⟩ := hrel
    by_cases hlt : k < n
    · have hk1 : (k : Int) < n := by omega
      have hk0 : (0 : Int) ≤ k := by omega
      obtain ⟨p, hp⟩ : ∃ p, zs[k]? = some p := ⟨_, List.getElem?_eq_getElem (by rw [HE.out]; exact hlt)⟩
      have hc1 := H1.out k p hp
      have hc2 := H2.out k p hp
      have HP := Lib.hid hp
      clear hp
      go_wp2_with fail
      go_quiet (fail)
      go_wp2_with fail
      go_roundw
      case rel => exact ⟨k + 1, _, by omega, by go_num, rfl⟩
      case measure => simp [intOf]; omega
    · have hk1 : ¬ (k : Int) < n := by omega
      go_wp2_with fail
      go_ret
      exact ⟨rfl, q, rfl⟩

/-- TWO LISTS OF NUMBERS THAT READ ALIKE ARE EQUAL. -/
theorem smI (w : World) (v1 v2 : Value) (zs : List Int) (h1 : IntRow w v1 zs) (h2 : IntRow w v2 zs) :
    Calls Try.prog 15 #[v1, v2] w fun e w' => e = .returned (.bool true) ∧ ∃ k, w' = w.drewN k := by
  rcases h1 with ⟨rfl, a, c, rfl⟩ | ⟨b1, o1, c1, rfl, hl, _, h1⟩
  · rcases h2 with ⟨_, b, d, rfl⟩ | ⟨b2, o2, c2, rfl, _, _, _⟩
    · exact (smI_zero w a b c d).mono fun e w' ⟨he, hw⟩ => ⟨he, 0, hw ▸ rfl⟩
    · exact (smI_zero w a _ c c2).mono fun e w' ⟨he, hw⟩ => ⟨he, 0, hw ▸ rfl⟩
  · rcases h2 with ⟨rfl, b, d, rfl⟩ | ⟨b2, o2, c2, rfl, _, _, h2⟩
    · exact (smI_zero w _ b c1 d).mono fun e w' ⟨he, hw⟩ => ⟨he, 0, hw ▸ rfl⟩
    · exact smI_some w b1 o1 c1 b2 o2 c2 zs hl h1 h2

theorem smI_B (w : World) (v1 v2 : Value) (zs : List Int) (h1 : IntRow w v1 zs) (h2 : IntRow w v2 zs) :
    Calls Try.prog 15 #[v1, v2] w fun e w' => e = .returned (.bool true) ∧ Below w.heap.size w w' :=
  (smI w v1 v2 zs h1 h2).mono fun _ _ ⟨he, q, hq⟩ => ⟨he, hq ▸ below_drewN2 (Below.refl _ _) q⟩


theorem count_succ {zs : List Int} {j : Nat} {z : Int} (x : Int) (h : zs[j]? = some z) : (zs.take (j + 1)).count x = (zs.take j).count x + (if z = x then 1 else 0) := by
  rw [List.take_add_one, h, List.count_append]
  by_cases e : z = x
  · subst e
    simp
  · rw [if_neg e]
    simp [e]
end Go.Proofs.Ytgknkjiifcnkpaa
namespace Go.Proofs.Ytgknkjiifcnkpaa
open Go.RowKit

theorem ret_bool9 {a b : Bool} (h : a = b) : Ending.returned (.bool a) = .returned (.bool b) := by rw [h]
/-- Whether a byte may stand in a name. -/
def lowB (c : UInt8) : Bool := inZ (c.toNat : Int) 97 122 || inZ (c.toNat : Int) 48 57
/-- Whether a text is a name. -/
def nameB (l : List UInt8) : Bool := inZ (l.length : Int) 1 12 && decide (97 ≤ (l.getD 0 0).toNat) && l.all lowB
theorem all_take_succ {l : List UInt8} {k : Nat} {p : UInt8 → Bool} (hk : k < l.length) : (l.take (k + 1)).all p = ((l.take k).all p && p l[k]) := by
  rw [List.take_add_one, List.getElem?_eq_getElem hk, List.all_append]
  simp
theorem all_not {l : List UInt8} {k : Nat} {p : UInt8 → Bool} (hk : k < l.length) (h : p l[k] = false) : l.all p = false := by
  rw [List.all_eq_false]
  exact ⟨l[k], List.getElem_mem hk, by rw [h]; simp⟩

set_option maxRecDepth 100000 in
theorem specIn9 (x lo hi : Int) (w : World) :
    Calls Try.prog 49 #[.int .i64 x, .int .i64 lo, .int .i64 hi] w fun e w' => e = .returned (.bool (inZ x lo hi)) ∧ w = w' := by
  by_cases h1 : lo ≤ x
  · by_cases h2 : x ≤ hi
    · have e : inZ x lo hi = true := inZ_iff.2 ⟨h1, h2⟩
      rw [e]
      go_enter Try.func49, Try.ntmps49
      go_wp2_with fail
      go_ret
      exact ⟨rfl, rfl⟩
    · have e : inZ x lo hi = false := by rw [inZ, decide_eq_false_iff_not]; exact fun h => h2 h.2
      rw [e]
      go_enter Try.func49, Try.ntmps49
      go_wp2_with fail
      go_ret
      exact ⟨rfl, rfl⟩
  · have e : inZ x lo hi = false := by rw [inZ, decide_eq_false_iff_not]; exact fun h => h1 h.1
    rw [e]
    go_enter Try.func49, Try.ntmps49
    go_wp2_with fail
    go_ret
    exact ⟨rfl, rfl⟩

set_option maxRecDepth 100000 in
set_option maxHeartbeats 1000000 in
theorem specName_long (s : ByteArray) (w : World) (_hsz : s.size ≤ 9223372036854775807) (h : inZ (s.size : Int) 1 12 = false) :
    Calls Try.prog 60 #[.string s] w fun e w' => e = .returned (.bool false) ∧ ∃ k, w' = w.drewN k := by
  go_enter Try.func60, Try.ntmps60
  go_wp2_with fail
  refine (specIn9 _ _ _ _).mono ?_
  rintro e w1 ⟨rfl, rfl⟩
  rw [h]
  go_wp2_with fail
  go_ret
  exact ⟨rfl, 0, rfl⟩

set_option maxRecDepth 100000 in
set_option maxHeartbeats 1000000 in
theorem specName_head (s : ByteArray) (w : World) (hsz : s.size ≤ 12) (h0 : 0 < s.size) (h : s[0].toNat < 97) :
    Calls Try.prog 60 #[.string s] w fun e w' => e = .returned (.bool false) ∧ ∃ k, w' = w.drewN k := by
  have hin : inZ (s.size : Int) 1 12 = true := inZ_iff.2 ⟨by omega, by omega⟩
  have hk0 : (0 : Int) < s.size := by omega
  have hc : (s[0].toNat : Int) < 97 := by omega
  go_enter Try.func60, Try.ntmps60
  go_wp2_with fail
  refine (specIn9 _ _ _ _).mono ?_
  rintro e w1 ⟨rfl, rfl⟩
  rw [hin]
  go_wp2_with fail
  go_ret
  exact ⟨rfl, 0, rfl⟩
set_option maxRecDepth 100000 in
set_option maxHeartbeats 1000000 in
theorem specName_walk (s : ByteArray) (w : World) (hsz : s.size ≤ 12) (h0 : 0 < s.size) (h : 97 ≤ s[0].toNat) (r : Bool) (hr : Hid (s.data.toList.all lowB = r)) :
    Calls Try.prog 60 #[.string s] w fun e w' => e = .returned (.bool r) ∧ ∃ k, w' = w.drewN k := by
  have hln : s.data.toList.length = s.size := (Lib.size_eq s).symm
  have hin : inZ (s.size : Int) 1 12 = true := inZ_iff.2 ⟨by omega, by omega⟩
  have hk0 : (0 : Int) < s.size := by omega
  have hc : ¬ (s[0].toNat : Int) < 97 := by omega
  go_enter Try.func60, Try.ntmps60
  go_wp2_with fail
  refine (specIn9 _ _ _ _).mono ?_
  rintro e w1 ⟨rfl, rfl⟩
  rw [hin]
  go_wp2_with fail
  go_loop [3] (fun i => ∃ (k : Nat), k ≤ s.size ∧ i = .int .i64 k ∧ (s.data.toList.take k).all lowB = true) (fun i => s.size - (intOf i).toNat)
  case atStart => exact ⟨0, Nat.zero_le _, rfl, by simp⟩
  case round =>
    obtain ⟨k, hk, rfl, hI⟩ := hrel
    have HI := Lib.hid hI
    clear hI hc hin
    by_cases hlt : k < s.size
    · have hk1 : (k : Int) < s.size := by omega
      have hkk : (0 : Int) ≤ k := by omega
      have hkl : k < s.data.toList.length := by omega
      have hat : s.data.toList[k] = s[k] := by simp; rfl
      have hwk : wrap64 (s[k].toNat : Int) = s[k].toNat := by
        have := s[k].toNat_lt
        unfold wrap64
        omega
      have HT := Lib.hid (all_take_succ (p := lowB) hkl)
      have HN := Lib.hid (all_not (p := lowB) hkl)
      rw [hat] at HT HN
      clear hat
      by_cases h1 : inZ (s[k].toNat : Int) 97 122 = true
      · have HL : Hid (lowB s[k] = true) := Lib.hid (by rw [lowB, h1]; rfl)
        go_wp2_with fail
        refine (specIn9 _ _ _ _).mono ?_
        rintro e w1 ⟨rfl, rfl⟩
        rw [h1]
        go_wp2_with fail
        go_round
        case rel => exact ⟨k + 1, by omega, by go_num, by rw [HT.out, HI.out, HL.out]; rfl⟩
        case measure => simp [intOf]; omega
      · have h1f : inZ (s[k].toNat : Int) 97 122 = false := by simpa using h1
        go_wp2_with fail
        refine (specIn9 _ _ _ _).mono ?_
        rintro e w1 ⟨rfl, rfl⟩
        rw [h1f]
        by_cases h2 : inZ (s[k].toNat : Int) 48 57 = true
        · have HL : Hid (lowB s[k] = true) := Lib.hid (by rw [lowB, h2]; simp)
          go_wp2_with fail
          refine (specIn9 _ _ _ _).mono ?_
          rintro e w1 ⟨rfl, rfl⟩
          rw [h2]
          go_wp2_with fail
          go_round
          case rel => exact ⟨k + 1, by omega, by go_num, by rw [HT.out, HI.out, HL.out]; rfl⟩
          case measure => simp [intOf]; omega
        · have h2f : inZ (s[k].toNat : Int) 48 57 = false := by simpa using h2
          have HL : Hid (lowB s[k] = false) := Lib.hid (by rw [lowB, h1f, h2f]; rfl)
          go_wp2_with fail
          refine (specIn9 _ _ _ _).mono ?_
          rintro e w1 ⟨rfl, rfl⟩
          rw [h2f]
          go_wp2_with fail
          go_ret
          exact ⟨ret_bool9 ((HN.out HL.out).symm.trans hr.out), 0, rfl⟩
    · obtain rfl : k = s.size := by omega
      have hk1 : ¬ (s.size : Int) < s.size := by omega
      go_wp2_with fail
      go_ret
      have h2 := HI.out
      have e : s.data.toList.take s.size = s.data.toList := List.take_of_length_le (by omega)
      rw [e] at h2
      exact ⟨ret_bool9 (h2.symm.trans hr.out), 0, rfl⟩

/-- WHETHER A TEXT IS A NAME. -/
theorem specName (s : ByteArray) (w : World) (hsz : s.size ≤ 9223372036854775807) :
    Calls Try.prog 60 #[.string s] w fun e w' => e = .returned (.bool (nameB s.data.toList)) ∧ ∃ k, w' = w.drewN k := by
  have hln : s.data.toList.length = s.size := (Lib.size_eq s).symm
  by_cases h : inZ (s.size : Int) 1 12 = true
  · have hr := inZ_iff.1 h
    have h0 : 0 < s.size := by omega
    have hg : s.data.toList.getD 0 0 = s[0] := by
      rw [List.getD_eq_getElem?_getD, List.getElem?_eq_getElem (by omega)]
      simp
      rfl
    by_cases hc : 97 ≤ s[0].toNat
    · have e : nameB s.data.toList = s.data.toList.all lowB := by rw [nameB, hln, h, hg]; simp [hc]
      rw [e]
      exact specName_walk s w (by omega) h0 hc _ rfl
    · have e : nameB s.data.toList = false := by rw [nameB, hln, h, hg]; simp [hc]
      rw [e]
      exact specName_head s w (by omega) h0 (by omega)
  · have hf : inZ (s.size : Int) 1 12 = false := by simpa using h
    have e : nameB s.data.toList = false := by rw [nameB, hln, hf]; rfl
    rw [e]
    exact specName_long s w hsz hf
end Go.Proofs.Ytgknkjiifcnkpaa
namespace Go.Proofs.Ytgknkjiifcnkpaa
open Go.RowKit

theorem Cur.drew {W w : World} {p : Nat} (h : Cur W w p) : Cur W w.drew p := ⟨h.1, h.2.1.drew, h.2.2⟩
theorem Cur.drewN {W w : World} {p : Nat} (h : Cur W w p) (n : Nat) : Cur W (w.drewN n) p := ⟨h.1, ⟨h.2.1.os, h.2.1.tape, h.2.1.output, h.2.1.size, h.2.1.block⟩, h.2.2⟩
theorem grownBy_drew {a w : World} {r : Option Nat} (h : a.grownBy w r) : a.grownBy w.drew r := ⟨h.os, h.tape, h.output, h.size, h.block⟩
theorem strOut_sub {s t : ByteArray} {M : Nat} (h : t.size ≤ s.size) (hM : s.size ≤ M) : StrOut M (.returned (.string t)) := ⟨t, by omega, rfl⟩

theorem Cur.next {W w w' : World} {p : Nat} (h : Cur W w p) (hB : Below w.heap.size w w') : Cur W w' p := by
  obtain ⟨h1, h2, v, n, i, x, hb, hi, hx0, hx1, hc⟩ := h
  exact ⟨h1, h2.trans (hB.mono h2.size), v, n, i, x, hb, hi, hx0, hx1, (hB.block _ (blk_lt hc)).trans hc⟩
end Go.Proofs.Ytgknkjiifcnkpaa
