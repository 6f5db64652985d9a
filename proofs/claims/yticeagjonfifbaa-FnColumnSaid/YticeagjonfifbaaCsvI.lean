/-
  The state of the reading of a text's rows.
-/
import Derived.Test.YticeagjonfifbaaBas
import Derived.Test.YticeagjonfifbaaCsvF
import Derived.Test.YticeagjonfifbaaRowSS
namespace Go.Proofs.Yticeagjonfifbaa
open Go.RowKit

theorem results_tmp_cell {fn : Func} {t p : Tmp} {ty : TypeId} (h : fn.results = #[.tmp t, .cell p ty]) (tmps : Array Value) (P : Program) (w : World) :
    (results fn tmps).run P w =
      ((asAddr (tmps.getD p undef)).run P w).andThen fun a w₁ => ((loadVar ty a).run P w₁).andThen fun v w₂ => .ok (.tuple #[tmps.getD t undef, v]) w₂ := by
  simp only [results, h]
  simp [Sem.run_bind, Result.andThen]

/-- A row being read: it is whole, or it goes on. -/
def RowI (l : List UInt8) : Bool → Nat → List (List UInt8) → ((List (List UInt8) × List UInt8) ⊕ Nat) → Prop
  | true, p, row, R => R = .inl (row, l.drop p)
  | false, p, row, R => ∃ n, (l.drop p).length < n ∧ rdRow n (l.drop p) row = R
theorem rowI_start (l : List UInt8) (p : Nat) : RowI l false p [] (rdRow ((l.drop p).length + 1) (l.drop p) []) := ⟨_, Nat.lt_succ_self _, rfl⟩
theorem rowI_bad {l : List UInt8} {p : Nat} {row : List (List UInt8)} {R : (List (List UInt8) × List UInt8) ⊕ Nat} (h : RowI l false p row R) (hf : rdF (l.drop p) = none) : R = .inr row.length := by
  obtain ⟨n, hn, h⟩ := h
  obtain ⟨m, rfl⟩ : ∃ m, n = m + 1 := ⟨n - 1, by omega⟩
  rw [rdRow, hf] at h
  exact h.symm
theorem rowI_eof {s : ByteArray} {p q : Nat} {row : List (List UInt8)} {f : List UInt8} {R : (List (List UInt8) × List UInt8) ⊕ Nat} (h : RowI s.data.toList false p row R) (hf : rdF (s.data.toList.drop p) = some (f, s.data.toList.drop q)) (hq : s.size ≤ q) : RowI s.data.toList true q (row ++ [f]) R := by
  obtain ⟨n, hn, h⟩ := h
  obtain ⟨m, rfl⟩ : ∃ m, n = m + 1 := ⟨n - 1, by omega⟩
  rw [rdRow, hf, drop_none hq] at h
  rw [RowI, drop_none hq]
  exact h.symm
theorem rowI_comma {s : ByteArray} {p q : Nat} {row : List (List UInt8)} {f : List UInt8} {R : (List (List UInt8) × List UInt8) ⊕ Nat} (h : RowI s.data.toList false p row R) (hf : rdF (s.data.toList.drop p) = some (f, s.data.toList.drop q)) (hq : q < s.size) (hc : s[q] = 44) : RowI s.data.toList false (q + 1) (row ++ [f]) R := by
  obtain ⟨n, hn, h⟩ := h
  obtain ⟨m, rfl⟩ : ∃ m, n = m + 1 := ⟨n - 1, by omega⟩
  have hl := rdF_len hf
  have hd := congrArg List.length (drop_at hq)
  rw [rdRow, hf, drop_at hq, hc] at h
  simp only [if_true] at h
  simp only [List.length_cons] at hd
  exact ⟨m, by omega, h⟩
theorem rowI_nl {s : ByteArray} {p q : Nat} {row : List (List UInt8)} {f : List UInt8} {R : (List (List UInt8) × List UInt8) ⊕ Nat} (h : RowI s.data.toList false p row R) (hf : rdF (s.data.toList.drop p) = some (f, s.data.toList.drop q)) (hq : q < s.size) (hc : s[q] = 10) : RowI s.data.toList true (q + 1) (row ++ [f]) R := by
  obtain ⟨n, hn, h⟩ := h
  obtain ⟨m, rfl⟩ : ∃ m, n = m + 1 := ⟨n - 1, by omega⟩
  rw [rdRow, hf, drop_at hq, hc] at h
  exact h.symm
theorem rowI_crlf {s : ByteArray} {p q : Nat} {row : List (List UInt8)} {f : List UInt8} {R : (List (List UInt8) × List UInt8) ⊕ Nat} (h : RowI s.data.toList false p row R) (hf : rdF (s.data.toList.drop p) = some (f, s.data.toList.drop q)) (hq : q + 1 < s.size) (hc : s[q] = 13) (hd : s[q + 1] = 10) : RowI s.data.toList true (q + 2) (row ++ [f]) R := by
  obtain ⟨n, hn, h⟩ := h
  obtain ⟨m, rfl⟩ : ∃ m, n = m + 1 := ⟨n - 1, by omega⟩
  rw [rdRow, hf, drop_at (by omega : q < s.size), drop_at hq, hc, hd] at h
  exact h.symm
theorem rowI_not {s : ByteArray} {p q : Nat} {row : List (List UInt8)} {f : List UInt8} {R : (List (List UInt8) × List UInt8) ⊕ Nat} (h : RowI s.data.toList false p row R) (hf : rdF (s.data.toList.drop p) = some (f, s.data.toList.drop q)) (hq : q < s.size) (h44 : ¬ s[q] = 44) (h10 : ¬ s[q] = 10) (h13 : ∀ (_ : s[q] = 13) (hq1 : q + 1 < s.size), ¬ s[q + 1] = 10) : R = .inr row.length := by
  obtain ⟨n, hn, h⟩ := h
  obtain ⟨m, rfl⟩ : ∃ m, n = m + 1 := ⟨n - 1, by omega⟩
  rw [rdRow, hf, drop_at hq] at h
  simp only at h
  rw [if_neg h44, if_neg h10, if_neg] at h
  · exact h.symm
  · rintro ⟨h1, h2⟩
    by_cases hq1 : q + 1 < s.size
    · rw [drop_at hq1] at h2
      exact h13 h1 hq1 (by simpa using h2)
    · rw [drop_none (by omega)] at h2
      cases h2

/-- The rows that are read. -/
def AllI (l : List UInt8) (p : Nat) (rows : List (List (List UInt8))) (R : List (List (List UInt8)) ⊕ (Nat × Nat)) : Prop := ∃ n, (l.drop p).length < n ∧ rdAll n (l.drop p) rows = R
theorem allI_start (l : List UInt8) : AllI l 0 [] (rdCsv l) := ⟨l.length + 1, by simp, rfl⟩
theorem allI_end {s : ByteArray} {p : Nat} {rows : List (List (List UInt8))} {R : List (List (List UInt8)) ⊕ (Nat × Nat)} (h : AllI s.data.toList p rows R) (hp : s.size ≤ p) : R = .inl rows := by
  obtain ⟨n, hn, h⟩ := h
  obtain ⟨m, rfl⟩ : ∃ m, n = m + 1 := ⟨n - 1, by omega⟩
  rw [drop_none hp, rdAll] at h
  exact h.symm
theorem allI_bad {s : ByteArray} {p k : Nat} {rows : List (List (List UInt8))} {R : List (List (List UInt8)) ⊕ (Nat × Nat)} (h : AllI s.data.toList p rows R) (hp : p < s.size) (hR : rdRow ((s.data.toList.drop p).length + 1) (s.data.toList.drop p) [] = .inr k) : R = .inr (rows.length, k) := by
  obtain ⟨n, hn, h⟩ := h
  obtain ⟨m, rfl⟩ : ∃ m, n = m + 1 := ⟨n - 1, by omega⟩
  rw [drop_at hp] at h hR
  rw [rdAll, show (s.data.toList.drop (p + 1)).length + 2 = (s[p] :: s.data.toList.drop (p + 1)).length + 1 from rfl, hR] at h
  exact h.symm
theorem allI_row {s : ByteArray} {p q : Nat} {rows : List (List (List UInt8))} {row : List (List UInt8)} {R : List (List (List UInt8)) ⊕ (Nat × Nat)} (h : AllI s.data.toList p rows R) (hp : p < s.size) (hR : rdRow ((s.data.toList.drop p).length + 1) (s.data.toList.drop p) [] = .inl (row, s.data.toList.drop q)) : AllI s.data.toList q (rows ++ [row]) R ∧ p < q := by
  obtain ⟨n, hn, h⟩ := h
  obtain ⟨m, rfl⟩ : ∃ m, n = m + 1 := ⟨n - 1, by omega⟩
  have hw := (rdRow_w _ _ _ _ _ hR).2.2 (by rw [drop_at hp]; simp)
  rw [drop_at hp] at h hR
  rw [rdAll, show (s.data.toList.drop (p + 1)).length + 2 = (s[p] :: s.data.toList.drop (p + 1)).length + 1 from rfl, hR] at h
  refine ⟨⟨m, by omega, h⟩, ?_⟩
  rw [List.length_drop, List.length_drop] at hw
  omega

/-- What reading answers: the rows, and the fault's three numbers. -/
def csvQ (l : List UInt8) : List (List (List UInt8)) × Nat × Nat × Nat :=
  if 4000 < l.length then ([], 1, 0, 0) else
  match rdCsv l with
  | .inl rows => (rows, 0, 0, 0)
  | .inr (a, b) => ([], 2, a, b)
theorem csvQ_long {l : List UInt8} (h : 4000 < l.length) : csvQ l = ([], 1, 0, 0) := by rw [csvQ, if_pos h]
theorem csvQ_ok {l : List UInt8} {rows : List (List (List UInt8))} (h : ¬ 4000 < l.length) (hr : rdCsv l = .inl rows) : csvQ l = (rows, 0, 0, 0) := by rw [csvQ, if_neg h, hr]
theorem csvQ_bad {l : List UInt8} {a b : Nat} (h : ¬ 4000 < l.length) (hr : rdCsv l = .inr (a, b)) : csvQ l = ([], 2, a, b) := by rw [csvQ, if_neg h, hr]
/-- A fault's value. -/
def faV (c a b : Nat) : Value := .agg #[.int .i64 c, .int .i64 a, .int .i64 b]
/-- What reading ends in. -/
def CsvPost (w : World) (l : List UInt8) (e : Ending) (w' : World) : Prop :=
  ∃ v, e = .returned (.tuple #[v, faV (csvQ l).2.1 (csvQ l).2.2.1 (csvQ l).2.2.2]) ∧ SSOwn w' w.heap.size v (csvQ l).1
theorem csvPost_of {w w' : World} {l : List UInt8} {v : Value} {rows : List (List (List UInt8))} {c a b : Nat} {z1 z2 z3 : Int} (h : csvQ l = (rows, c, a, b)) (h1 : z1 = c) (h2 : z2 = a) (h3 : z3 = b) (ho : SSOwn w' w.heap.size v rows) : CsvPost w l (.returned (.tuple #[v, .agg #[.int .i64 z1, .int .i64 z2, .int .i64 z3]])) w' := by
  subst h1
  subst h2
  subst h3
  refine ⟨v, by rw [h]; rfl, by rw [h]; exact ho⟩

/-- The world while the rows are read. -/
structure OutSt (w wr : World) (vo : Value) (rows : List (List (List UInt8))) : Prop where
  below : Below w.heap.size w wr
  cell : wr.heap[w.heap.size]? = some (.cells #[.int .i64 0, .int .i64 0, .int .i64 0] 75 (0, 0))
  out : SSOwn wr w.heap.size vo rows
structure CsvSt (w wr : World) (lo : Nat) (vo vr : Value) (rows : List (List (List UInt8))) (row : List (List UInt8)) : Prop where
  below : Below w.heap.size w wr
  cell : wr.heap[w.heap.size]? = some (.cells #[.int .i64 0, .int .i64 0, .int .i64 0] 75 (0, 0))
  out : ∃ vs, wr.ownsRow w.heap.size 24 1 vo rows.length vs ∧ RowsOwn wr w.heap.size 9 vs (rows.map strCells) ∧ ∀ (j : Nat) x g, vs[j]? = some x → x.ownBlock = some g → g < lo
  row : wr.ownsRow lo 9 1 vr row.length (strCells row)
  le : w.heap.size ≤ lo
  hi : lo ≤ wr.heap.size
theorem CsvSt.next {w wr w' : World} {lo : Nat} {vo vr : Value} {rows : List (List (List UInt8))} {row : List (List UInt8)} (h : CsvSt w wr lo vo vr rows row) (hB : Below wr.heap.size wr w') : CsvSt w w' lo vo vr rows row := by
  obtain ⟨vs, ho, hr, hlt⟩ := h.out
  exact ⟨h.below.trans (hB.mono h.below.size), (hB.block _ (blk_lt h.cell)).trans h.cell, ⟨vs, ho.kept (grown_of_below hB none) (by cases hv : vo.ownBlock <;> simp), hr.below hB, hlt⟩, h.row.kept (grown_of_below hB none) (by cases hv : vr.ownBlock <;> simp), h.le, Nat.le_trans h.hi hB.size⟩
theorem OutSt.start {w wr : World} {vo : Value} {rows : List (List (List UInt8))} (h : OutSt w wr vo rows) : CsvSt w (wr.alloc (.cells #[] 9)) wr.heap.size vo (.slice (some ⟨wr.heap.size, 0, none⟩) 0 0) rows [] := by
  obtain ⟨vs, ho, hr⟩ := h.out
  have hB : Below wr.heap.size wr (wr.alloc (.cells #[] 9)) := (Below.refl _ _).alloc (Nat.le_refl _) _
  exact ⟨h.below.trans (hB.mono h.below.size), (hB.block _ (blk_lt h.cell)).trans h.cell, ⟨vs, ho.kept (grown_of_below hB none) (by cases hv : vo.ownBlock <;> simp), hr.below hB, fun j x g hx hg => (hr.lt hx hg).2⟩, World.ownsRow_made wr #[] 0 (Nat.le_refl _) (by unfold maxLen; omega) (by simp), h.below.size, hB.size⟩
theorem cell_apart {w : World} {b base s n : Nat} {T T' : TypeId} {v : Value} {xs : List Value} {cs : Array Value} (hc : w.heap[b]? = some (.cells cs T' (0, 0))) (ho : w.ownsRow base T s v n xs) (hT : T ≠ T') : v.ownBlock ≠ some b := by
  intro e
  rcases ho.2 with ⟨rfl, _⟩ | ⟨g, cap, cur, rfl, _, hg, _⟩
  · cases e
  · simp only [Value.ownBlock, Option.some.injEq] at e
    subst e
    rw [hc] at hg
    injection hg with hg
    injection hg with _ hg
    exact hT hg.symm
theorem CsvSt.app {w wr w' : World} {lo : Nat} {vo vr vr' : Value} {rows : List (List (List UInt8))} {row : List (List UInt8)} {f : List UInt8} (h : CsvSt w wr lo vo vr rows row) (hg : wr.grownBy w' vr.ownBlock) (ho' : w'.ownsRow lo 9 1 vr' (row.length + 1) (strCells row ++ [.string ⟨f.toArray⟩])) : CsvSt w w' lo vo vr' rows (row ++ [f]) := by
  obtain ⟨vs, ho, hr, hlt⟩ := h.out
  have hT : 9 ≠ 24 := by decide
  have hT2 : 9 ≠ 75 := by decide
  refine ⟨h.below.grown hg h.below.size (fun k hk => Nat.le_trans h.le (h.row.lt k hk).1), ?_, ⟨vs, ho.kept hg ?_, hr.kept hg (fun j u g hu hb e => ?_), hlt⟩, ?_, h.le, Nat.le_trans h.hi hg.size⟩
  · rw [hg.block _ (blk_lt h.cell) (fun e => cell_apart h.cell h.row hT2 e.symm)]
    exact h.cell
  · cases hb : vo.ownBlock with
    | none => exact Or.inl rfl
    | some b => exact Or.inr (fun e => owns_apart h.row ho hT b e.symm hb)
  · have := hlt j u g hu hb
    have := (h.row.lt g e).1
    omega
  · have e : (row ++ [f]).length = row.length + 1 := by simp
    rw [e, show strCells (row ++ [f]) = strCells row ++ [.string ⟨f.toArray⟩] by simp [strCells]]
    exact ho'
theorem CsvSt.push {w wr w' : World} {lo : Nat} {vo vr vo' : Value} {rows : List (List (List UInt8))} {row : List (List UInt8)} {vs : List Value} (h : CsvSt w wr lo vo vr rows row) (ho : wr.ownsRow w.heap.size 24 1 vo rows.length vs) (hr : RowsOwn wr w.heap.size 9 vs (rows.map strCells)) (hlt : ∀ (j : Nat) x g, vs[j]? = some x → x.ownBlock = some g → g < lo)
    (hg : wr.grownBy w' vo.ownBlock) (ho' : w'.ownsRow w.heap.size 24 1 vo' (rows.length + 1) (vs ++ [vr])) : OutSt w w' vo' (rows ++ [row]) := by
  have hT : 9 ≠ 24 := by decide
  have hT2 : 24 ≠ 75 := by decide
  have hu : w'.ownsRow w.heap.size 9 1 vr (strCells row).length (strCells row) := by
    rw [strCells_len]
    refine World.ownsRow.mono (h.row.kept hg ?_) h.le
    cases hb : vr.ownBlock with
    | none => exact Or.inl rfl
    | some b => exact Or.inr (fun e => owns_apart h.row ho hT b hb e.symm)
  refine ⟨h.below.grown hg h.below.size (fun k hk => (ho.lt k hk).1), ?_, vs ++ [vr], ?_, ?_⟩
  · rw [hg.block _ (blk_lt h.cell) (fun e => cell_apart h.cell ho hT2 e.symm)]
    exact h.cell
  · rw [show (rows ++ [row]).length = rows.length + 1 by simp]
    exact ho'
  · rw [show (rows ++ [row]).map strCells = rows.map strCells ++ [strCells row] by simp]
    exact (hr.outer ho hT hg).snoc (lo := lo) hu hlt (fun g hg => (h.row.lt g hg).1)
theorem OutSt.set {w wr : World} {vo : Value} {rows : List (List (List UInt8))} (h : OutSt w wr vo rows) (x y z : Value) : SSOwn (((wr.setCell ⟨w.heap.size, 0, none⟩ x).setCell ⟨w.heap.size, 1, none⟩ y).setCell ⟨w.heap.size, 2, none⟩ z) w.heap.size vo rows ∧ Below w.heap.size w (((wr.setCell ⟨w.heap.size, 0, none⟩ x).setCell ⟨w.heap.size, 1, none⟩ y).setCell ⟨w.heap.size, 2, none⟩ z) := by
  obtain ⟨vs, ho, hr⟩ := h.out
  have hT1 : 24 ≠ 75 := by decide
  have hT2 : 9 ≠ 75 := by decide
  have hg := grownBy_trans (grownBy_trans (grownBy_set wr w.heap.size 0 x) (grownBy_set _ w.heap.size 1 y)) (grownBy_set _ w.heap.size 2 z)
  refine ⟨⟨vs, ho.kept hg (Or.inr (cell_apart h.cell ho hT1)), hr.kept hg (fun j u g hu hb e => ?_)⟩, ((h.below.setCell (Nat.le_refl _) _).setCell (Nat.le_refl _) _).setCell (Nat.le_refl _) _⟩
  have hj : j < (rows.map strCells).length := by rw [← hr.1]; exact (List.getElem?_eq_some_iff.1 hu).1
  obtain rfl := Option.some.inj e
  exact cell_apart h.cell (hr.2.1 j u _ hu (List.getElem?_eq_getElem hj)) hT2 hb
theorem owns_form {w : World} {base s n : Nat} {T : TypeId} {v : Value} {xs : List Value} (h : w.ownsRow base T s v n xs) : ∃ a c, v = .slice a n c := by
  rcases h.2 with ⟨rfl, rfl⟩ | ⟨g, cap, cur, rfl, _⟩
  · exact ⟨_, _, rfl⟩
  · exact ⟨_, _, rfl⟩
theorem outSt_form {w wr : World} {vo : Value} {rows : List (List (List UInt8))} (h : OutSt w wr vo rows) : ∃ a c, vo = .slice a rows.length c := by
  obtain ⟨vs, ho, _⟩ := h.out
  exact owns_form ho
theorem blk_old {w w2 : World} {b : Nat} {o : Obj} (hB : Below w.heap.size w w2) (hb : b < w.heap.size) (h : w.heap[b]? = some o) : w2.heap[b]? = some o := (hB.block b hb).trans h
theorem bad_out {w W : World} {lo : Nat} {vo vr : Value} {rows : List (List (List UInt8))} {row : List (List UInt8)} (h : CsvSt w W lo vo vr rows row) (x y z : Value) :
    SSOwn ((((W.setCell ⟨w.heap.size, 0, none⟩ x).setCell ⟨w.heap.size, 1, none⟩ y).setCell ⟨w.heap.size, 2, none⟩ z).alloc (.cells #[] 24)).drew w.heap.size (.slice (some ⟨W.heap.size, 0, none⟩) 0 0) [] ∧
    Below w.heap.size w ((((W.setCell ⟨w.heap.size, 0, none⟩ x).setCell ⟨w.heap.size, 1, none⟩ y).setCell ⟨w.heap.size, 2, none⟩ z).alloc (.cells #[] 24)).drew := by
  have hs := h.below.size
  have h1 := World.ownsRow_made (base := w.heap.size) (e := 24) (size := 1) (((W.setCell ⟨w.heap.size, 0, none⟩ x).setCell ⟨w.heap.size, 1, none⟩ y).setCell ⟨w.heap.size, 2, none⟩ z) #[] 0 (by simpa using hs) (by unfold maxLen; omega) (by simp)
  have e : (((W.setCell ⟨w.heap.size, 0, none⟩ x).setCell ⟨w.heap.size, 1, none⟩ y).setCell ⟨w.heap.size, 2, none⟩ z).heap.size = W.heap.size := by simp
  rw [e] at h1
  exact ⟨⟨[], h1.drew, RowsOwn.nil _ _ _⟩, ((((h.below.setCell (Nat.le_refl _) _).setCell (Nat.le_refl _) _).setCell (Nat.le_refl _) _).alloc (by simpa using hs) _).drew⟩
theorem two_out (w : World) (cs : Array Value) : SSOwn ((w.alloc (.cells cs 75)).alloc (.cells #[] 24)) w.heap.size (.slice (some ⟨w.heap.size + 1, 0, none⟩) 0 0) [] ∧ Below w.heap.size w ((w.alloc (.cells cs 75)).alloc (.cells #[] 24)) := by
  have hB : Below w.heap.size w (w.alloc (.cells cs 75)) := (Below.refl _ _).alloc (Nat.le_refl _) _
  refine ⟨⟨[], ?_, RowsOwn.nil _ _ _⟩, hB.alloc hB.size _⟩
  have := World.ownsRow_made (base := w.heap.size) (e := 24) (size := 1) (w.alloc (.cells cs 75)) #[] 0 (by simp) (by unfold maxLen; omega) (by simp)
  simpa using this
theorem outSt_start (w : World) : OutSt w ((w.alloc (.cells #[.int .i64 0, .int .i64 0, .int .i64 0] 75)).alloc (.cells #[] 24)) (.slice (some ⟨w.heap.size + 1, 0, none⟩) 0 0) [] := by
  have hB : Below w.heap.size w (w.alloc (.cells #[.int .i64 0, .int .i64 0, .int .i64 0] 75)) := (Below.refl _ _).alloc (Nat.le_refl _) _
  refine ⟨hB.alloc hB.size _, ?_, [], ?_, RowsOwn.nil _ _ _⟩
  · show ((w.heap.push _).push _)[w.heap.size]? = _
    rw [Array.getElem?_push_lt (by simp)]
    simp
  · have := World.ownsRow_made (base := w.heap.size) (e := 24) (size := 1) (w.alloc (.cells #[.int .i64 0, .int .i64 0, .int .i64 0] 75)) #[] 0 (by simp) (by unfold maxLen; omega) (by simp)
    simpa using this
end Go.Proofs.Yticeagjonfifbaa
