/-
  The state of the reading of a text's rows.
-/
import Derived.Test.YtekdlkakcclejaaBas
import Derived.Test.YtekdlkakcclejaaCsvF
import Derived.Test.YtekdlkakcclejaaRowSS
namespace Go.Proofs.Ytekdlkakcclejaa
open Go.RowKit

theorem results_tmp_cell {fn : Func} {t p : Tmp} {ty : TypeId} (h : fn.results = #[.tmp t, .cell p ty]) (tmps : Array Value) (P : Program) (w : World) :
    (results fn tmps).run P w =
      ((asAddr (tmps.getD p undef)).run P w).andThen fun a w₁ => ((loadVar ty a).run P w₁).andThen fun v w₂ => .ok (.tuple #[tmps.getD t undef, v]) w₂ := by
  simp only [results, h]
  simp [Sem.run_bind, Result.andThen]

/-- A row being read: it is whole, or it goes on. -/
def RowI (l : List UInt8) : Bool → Nat → List (List UInt8) → ((List (List UInt8) × List UInt8) ⊕ Nat) → Prop
  | true, p, row, R => R = .inl (row, l.drop p)
  | false, p, row, R => ∃ n, (l.drop p).length < n ∧ rdRow n (l.drop p) row = R
theorem rowI_start (l : List UInt8) (p : Nat) : RowI l false p [] (rdRow ((l.drop p).length + 1) (l.drop p) []) := ⟨_, Nat.lt_succ_self _, rfl⟩
theorem rowI_bad {l : List UInt8} {p : Nat} {row : List (List UInt8)} {R : (List (List UInt8) × List UInt8) ⊕ Nat} (h : RowI l false p row R) (hf : rdF (l.drop p) = none) : R = .inr row.length := by
  obtain ⟨n, hn, h⟩ := h
  obtain ⟨m, rfl⟩ : ∃ m, n = m + 1 := ⟨n - 1, by omega⟩
  rw [rdRow, hf] at h
  exact h.symm
theorem rowI_eof {s : ByteArray} {p q : Nat} {row : List (List UInt8)} {f : List UInt8} {R : (List (List UInt8) × List UInt8) ⊕ Nat} (h : RowI s.data.toList false p row R) (hf : rdF (s.data.toList.drop p) = some (f, s.data.toList.drop q)) (hq : s.size ≤ q) : RowI s.data.toList true q (row ++ [f]) R := by
  obtain ⟨n, hn, h⟩ := h
  obtain ⟨m, rfl⟩ : ∃ m, n = m + 1 := ⟨n - 1, by omega⟩
  rw [rdRow, hf, drop_none hq] at h
  rw [RowI, drop_none hq]
  exact h.symm
theorem rowI_comma {s : ByteArray} {p q : Nat} {row : List (List UInt8)} {f : List UInt8} {R : (List (List UInt8) × List UInt8) ⊕ Nat} (h : RowI s.data.toList false p row R) (hf : rdF (s.data.toList.drop p) = some (f, s.data.toList.drop q)) (hq : q < s.size) (hc : s[q] = 44) : RowI s.data.toList false (q + 1) (row ++ [f]) R := by
  obtain ⟨n, hn, h⟩ := h
  obtain ⟨m, rfl⟩ : ∃ m, n = m + 1 := ⟨n - 1, by omega⟩
  have hl := rdF_len hf
  have hd := congrArg List.length (drop_at hq)
  rw [rdRow, hf, drop_at hq, hc] at h
  simp only [if_true] at h
  simp only [List.length_cons] at hd
  exact ⟨m, by omega, h⟩
theorem rowI_nl {s : ByteArray} {p q : Nat} {row : List (List UInt8)} {f : List UInt8} {R : (List (List UInt8) × List UInt8) ⊕ Nat} (h : RowI s.data.toList false p row R) (hf : rdF (s.data.toList.drop p) = some (f, s.data.toList.drop q)) (hq : q < s.size) (hc : s[q] = 10) : RowI s.data.toList true (q + 1) (row ++ [f]) R := by
  obtain ⟨n, hn, h⟩ := h
  obtain ⟨m, rfl⟩ : ∃ m, n = m + 1 := ⟨n - 1, by omega⟩
  rw [rdRow, hf, drop_at hq, hc] at h
  exact h.symm
theorem rowI_crlf {s : ByteArray} {p q : Nat} {row : List (List UInt8)} {f : List UInt8} {R : (List (List UInt8) × List UInt8) ⊕ Nat} (h : RowI s.data.toList false p row R) (hf : rdF (s.data.toList.drop p) = some (f, s.data.toList.drop q)) (hq : q + 1 < s.size) (hc : s[q] = 13) (hd : s[q + 1] = 10) : RowI s.data.toList true (q + 2) (row ++ [f]) R := by
  obtain ⟨n, hn, h⟩ := h
  obtain ⟨m, rfl⟩ : ∃ m, n = m + 1 := ⟨n - 1, by omega⟩
  rw [rdRow, hf, drop_at (by omega : q < s.size), drop_at hq, hc, hd] at h
  exact h.symm
theorem rowI_not {s : ByteArray} {p q : Nat} {row : List (List UInt8)} {f : List UInt8} {R : (List (List UInt8) × List UInt8) ⊕ Nat} (h : RowI s.data.toList false p row R) (hf : rdF (s.data.toList.drop p) = some (f, s.data.toList.drop q)) (hq : q < s.size) (h44 : ¬ s[q] = 44) (h10 : ¬ s[q] = 10) (h13 : ∀ (_ : s[q] = 13) (hq1 : q + 1 < s.size), ¬ s[q + 1] = 10) : R = .inr row.length := by
  obtain ⟨n, hn, h⟩ := h
  obtain ⟨m, rfl⟩ : ∃ m, n = m + 1 := ⟨n - 1, by omega⟩
  rw [rdRow, hf, drop_at hq] at h
  simp only at h
  rw [if_neg h44, if_neg h10, if_neg] at h
  · exact h.symm
  · rintro ⟨h1, h2⟩
    by_cases hq1 : q + 1 < s.size
    · rw [drop_at hq1] at h2
      exact h13 h1 hq1 (by simpa using h2)
    · rw [drop_none (by omega)] at h2
      cases h2

/-- The rows that are read. -/
def AllI (l : List UInt8) (p : Nat) (rows : List (List (List UInt8))) (R : List (List (List UInt8)) ⊕ (Nat × Nat)) : Prop := ∃ n, (l.drop p).length < n ∧ rdAll n (l.drop p) rows = R
theorem allI_start (l : List UInt8) : AllI l 0 [] (rdCsv l) := ⟨l.length + 1, by simp, rfl⟩
theorem allI_end {s : ByteArray} {p : Nat} {rows : List (List (List UInt8))} {R : List (List (List UInt8)) ⊕ (Nat × Nat)} (h : AllI s.data.toList p rows R) (hp : s.size ≤ p) : R = .inl rows := by
  obtain ⟨n, hn, h⟩ := h
  obtain ⟨m, rfl⟩ : ∃ m, n = m + 1 := ⟨n - 1, by omega⟩
  rw [drop_none hp, rdAll] at h
  exact h.symm
theorem allI_bad {s : ByteArray} {p k : Nat} {rows : List (List (List UInt8))} {R : List (List (List UInt8)) ⊕ (Nat × Nat)} (h : AllI s.data.toList p rows R) (hp : p < s.size) (hR : rdRow ((s.data.toList.drop p).length + 1) (s.data.toList.drop p) [] = .inr k) : R = .inr (rows.length, k) := by
  obtain ⟨n, hn, h⟩ := h
  obtain ⟨m, rfl⟩ : ∃ m, n = m + 1 := ⟨n - 1, by omega⟩
  rw [drop_at hp] at h hR
  rw [rdAll, show (s.data.toList.drop (p + 1)).length + 2 = (s[p] :: s.data.toList.drop (p + 1)).length + 1 from rfl, hR] at h
  exact h.symm
theorem allI_row {s : ByteArray} {p q : Nat} {rows : List (List (List UInt8))} {row : List (List UInt8)} {R : List (List (List UInt8)) ⊕ (Nat × Nat)} (h : AllI s.data.toList p rows R) (hp : p < s.size) (hR : rdRow ((s.data.toList.drop p).length + 1) (s.data.toList.drop p) [] = .inl (row, s.data.toList.drop q)) : AllI s.data.toList q (rows ++ [row]) R ∧ p < q := by
  obtain ⟨n, hn, h⟩ := h
  obtain ⟨m, rfl⟩ : ∃ m, n = m + 1 := ⟨n - 1, by omega⟩
  have hw := (rdRow_w _ _ _ _ _ hR).2.2 (by rw [drop_at hp]; simp)
  rw [drop_at hp] at h hR
  rw [rdAll, show (s.data.toList.drop (p + 1)).length + 2 = (s[p] :: s.data.toList.drop (p + 1)).length + 1 from rfl, hR] at h
  refine ⟨⟨m, by omega, h⟩, ?_⟩
  rw [List.length_drop, List.length_drop] at hw
  omega

/-- What reading answers: the rows, and the fault's three numbers. -/
def csvQ (l : List UInt8) : List (List (List UInt8)) × Nat × Nat × Nat :=
  if 4000 < l.length then ([], 1, 0, 0) else
  match rdCsv l with
  | .inl rows => (rows, 0, 0, 0)
  | .inr (a, b) => ([], 2, a, b)
theorem csvQ_long {l : List UInt8} (h : 4000 < l.length) : csvQ l = ([], 1, 0, 0) := by rw [csvQ, if_pos h]
theorem csvQ_ok {l : List UInt8} {rows : List (List (List UInt8))} (h : ¬ 4000 < l.length) (hr : rdCsv l = .inl rows) : csvQ l = (rows, 0, 0, 0) := by rw [csvQ, if_neg h, hr]
theorem csvQ_bad {l : List UInt8} {a b : Nat} (h : ¬ 4000 < l.length) (hr : rdCsv l = .inr (a, b)) : csvQ l = ([], 2, a, b) := by rw [csvQ, if_neg h, hr]
/-- A fault's value. -/
def faV (c a b : Nat) : Value := .agg #[.int .i64 c, .int .i64 a, .int .i64 b]
theorem cell_apart {w : World} {b base s n : Nat} {T T' : TypeId} {v : Value} {xs : List Value} {cs : Array Value} (hc : w.heap[b]? = some (.cells cs T' (0, 0))) (ho : w.ownsRow base T s v n xs) (hT : T ≠ T') : v.ownBlock ≠ some b := by
  intro e
  rcases ho.2 with ⟨rfl, _⟩ | ⟨g, cap, cur, rfl, _, hg, _⟩
  · cases e
  · simp only [Value.ownBlock, Option.some.injEq] at e
    subst e
    rw [hc] at hg
    injection hg with hg
    injection hg with _ hg
    exact hT hg.symm
theorem owns_form {w : World} {base s n : Nat} {T : TypeId} {v : Value} {xs : List Value} (h : w.ownsRow base T s v n xs) : ∃ a c, v = .slice a n c := by
  rcases h.2 with ⟨rfl, rfl⟩ | ⟨g, cap, cur, rfl, _⟩
  · exact ⟨_, _, rfl⟩
  · exact ⟨_, _, rfl⟩
theorem blk_old {w w2 : World} {b : Nat} {o : Obj} (hB : Below w.heap.size w w2) (hb : b < w.heap.size) (h : w.heap[b]? = some o) : w2.heap[b]? = some o := (hB.block b hb).trans h
end Go.Proofs.Ytekdlkakcclejaa
