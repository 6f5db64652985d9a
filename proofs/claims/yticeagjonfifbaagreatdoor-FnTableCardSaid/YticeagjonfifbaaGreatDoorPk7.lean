/-
  What is wrong with the names: plain mathematics.
  Tables and their text: plain mathematics.
  The reading of tables: plain mathematics.
-/
import Derived.Test.YticeagjonfifbaaGreatDoorTabO
import Derived.Test.YticeagjonfifbaaGreatDoorPk1
import Derived.Test.YticeagjonfifbaaGreatDoorPk4
namespace Go.Proofs.YticeagjonfifbaaGreatDoor
open Go.RowKit

/-- Whether the name at a place is right, and new. -/
def nmB (L : List (List UInt8)) (i : Nat) : Bool := nameB (L.getD i []) && !hasB (L.take i) (L.getD i [])
/-- What is wrong with the names from place i on: the code and the column. -/
def headG (L : List (List UInt8)) : Nat → Nat → Nat × Nat
  | 0, _ => (0, 0)
  | n + 1, i => if nameB (L.getD i []) = false then (5, i) else if hasB (L.take i) (L.getD i []) = true then (6, i) else headG L n (i + 1)
def headF (L : List (List UInt8)) : Nat × Nat := if inZ (L.length : Int) 2 5 = true then headG L L.length 0 else (7, 0)
theorem nmB_iff {L : List (List UInt8)} {i : Nat} : nmB L i = true ↔ nameB (L.getD i []) = true ∧ hasB (L.take i) (L.getD i []) = false := by
  simp [nmB]
theorem headG_ok {L : List (List UInt8)} : ∀ (n i : Nat), (∀ j, i ≤ j → j < i + n → nmB L j = true) → headG L n i = (0, 0)
  | 0, _, _ => rfl
  | n + 1, i, h => by
    have h1 := nmB_iff.1 (h i (Nat.le_refl _) (by omega))
    rw [headG, if_neg (by rw [h1.1]; decide), if_neg (by rw [h1.2]; decide)]
    exact headG_ok n (i + 1) (fun j h1 h2 => h j (by omega) (by omega))
theorem headG_all {L : List (List UInt8)} : ∀ (n i : Nat), (headG L n i).1 = 0 → ∀ j, i ≤ j → j < i + n → nmB L j = true
  | 0, i, _, j, h1, h2 => by omega
  | n + 1, i, h, j, h1, h2 => by
    rw [headG] at h
    by_cases ha : nameB (L.getD i []) = false
    · rw [if_pos ha] at h
      simp at h
    · rw [if_neg ha] at h
      by_cases hb : hasB (L.take i) (L.getD i []) = true
      · rw [if_pos hb] at h
        simp at h
      · rw [if_neg hb] at h
        by_cases e : j = i
        · subst e
          exact nmB_iff.2 ⟨by simpa using ha, by simpa using hb⟩
        · exact headG_all n (i + 1) h j (by omega) (by omega)
theorem headF_ok {L : List (List UInt8)} (h : (headF L).1 = 0) : 2 ≤ L.length ∧ L.length ≤ 5 ∧ ∀ j, j < L.length → nmB L j = true := by
  unfold headF at h
  by_cases hi : inZ (L.length : Int) 2 5 = true
  · rw [if_pos hi] at h
    have k := inZ_iff.1 hi
    exact ⟨by omega, by omega, fun j hj => headG_all _ 0 h j (by omega) (by omega)⟩
  · rw [if_neg hi] at h
    simp at h
theorem headG_bad1 {L : List (List UInt8)} {n j : Nat} {p : List UInt8} (hj : j < n) (hp : L[j]? = some p) (h : nameB p = false) : headG L (n - j) j = (5, j) := by
  obtain ⟨m, hm⟩ : ∃ m, n - j = m + 1 := ⟨n - j - 1, by omega⟩
  rw [hm, headG, getD_at hp, if_pos h]
theorem headG_bad2 {L : List (List UInt8)} {n j : Nat} {p : List UInt8} (hj : j < n) (hp : L[j]? = some p) (h : nameB p = true) (h2 : hasB (L.take j) p = true) : headG L (n - j) j = (6, j) := by
  obtain ⟨m, hm⟩ : ∃ m, n - j = m + 1 := ⟨n - j - 1, by omega⟩
  rw [hm, headG, getD_at hp, if_neg (by rw [h]; decide), if_pos h2]
theorem headG_next {L : List (List UInt8)} {n j : Nat} {p : List UInt8} (hj : j < n) (hp : L[j]? = some p) (h : nameB p = true) (h2 : hasB (L.take j) p = false) : headG L (n - j) j = headG L (n - (j + 1)) (j + 1) := by
  obtain ⟨m, hm⟩ : ∃ m, n - j = m + 1 := ⟨n - j - 1, by omega⟩
  have e : n - (j + 1) = m := by omega
  rw [hm, e, headG, getD_at hp, if_neg (by rw [h]; decide), if_neg (by rw [h2]; decide)]
end Go.Proofs.YticeagjonfifbaaGreatDoor
namespace Go.Proofs.YticeagjonfifbaaGreatDoor
open Go.RowKit

/-- A row of a table's text. -/
def rowTx (r : List Int) (y : Int) : List (List UInt8) := r.map fixT ++ [fixT y]
def rowsTx (T : Tab) (k : Nat) : List (List (List UInt8)) := (T.ns ++ [T.y]) :: (List.range k).map fun i => rowTx (T.rs.getD i []) (T.ys.getD i 0)
/-- The text of a table. -/
def tabT (T : Tab) : List UInt8 := if okT T = true then csvT (rowsTx T T.rs.length) else []
theorem rowsTx_succ (T : Tab) (k : Nat) : rowsTx T (k + 1) = rowsTx T k ++ [rowTx (T.rs.getD k []) (T.ys.getD k 0)] := by
  unfold rowsTx
  rw [List.range_succ, List.map_append, List.cons_append]
  rfl
theorem rowT_bound {b : Nat} : ∀ (r : List (List UInt8)), (∀ p ∈ r, p.length ≤ b) → (rowT r).length ≤ r.length * (2 * b + 3)
  | [], _ => by simp [rowT]
  | [f], h => by
    have h1 := csvF_len f
    have h2 := h f (by simp)
    simp only [rowT, List.length_cons, List.length_nil]
    omega
  | f :: g :: r, h => by
    have ih := rowT_bound (g :: r) (fun p hp => h p (by simp [hp]))
    have h1 := csvF_len f
    have h2 := h f (by simp)
    have e : (rowT (f :: g :: r)).length = (csvF f).length + (1 + (rowT (g :: r)).length) := by
      simp only [rowT, List.length_append, List.length_cons]
      omega
    have e2 : (f :: g :: r).length * (2 * b + 3) = (g :: r).length * (2 * b + 3) + (2 * b + 3) := by
      simp only [List.length_cons, Nat.add_mul, Nat.one_mul]
    rw [e, e2]
    omega
theorem csvT_bound {a b : Nat} : ∀ (L : List (List (List UInt8))), (∀ r ∈ L, r.length ≤ a ∧ ∀ p ∈ r, p.length ≤ b) → (csvT L).length ≤ L.length * (a * (2 * b + 3) + 1)
  | [], _ => by simp [csvT]
  | r :: L, h => by
    have ih := csvT_bound L (fun x hx => h x (by simp [hx]))
    have h1 := rowT_bound r (h r (by simp)).2
    have h2 : r.length * (2 * b + 3) ≤ a * (2 * b + 3) := Nat.mul_le_mul_right _ (h r (by simp)).1
    have e : (csvT (r :: L)).length = (rowT r).length + (1 + (csvT L).length) := by
      simp only [csvT, List.length_append, List.length_cons]
      omega
    have e2 : (r :: L).length * (a * (2 * b + 3) + 1) = L.length * (a * (2 * b + 3) + 1) + (a * (2 * b + 3) + 1) := by
      simp only [List.length_cons, Nat.add_mul, Nat.one_mul]
    rw [e, e2]
    omega
/-- What a right table keeps to. -/
theorem okT_head {T : Tab} (h : okT T = true) : (1 ≤ T.ns.length ∧ T.ns.length ≤ 4) ∧ nameB T.y = true ∧ (1 ≤ T.rs.length ∧ T.rs.length ≤ 40) ∧ T.ys.length = T.rs.length ∧ (∀ i, i < T.ns.length → nameB (T.ns.getD i []) = true ∧ hasB (T.ns.take i) (T.ns.getD i []) = false) ∧ hasB T.ns T.y = false ∧ (∀ i, i < T.rs.length → (T.rs.getD i []).length = T.ns.length ∧ valB (T.ys.getD i 0) = true ∧ (T.rs.getD i []).all valB = true) := by
  simp only [okT, headB, Bool.and_eq_true, inZ_iff, List.all_eq_true, List.mem_range, decide_eq_true_eq, Bool.not_eq_true'] at h
  obtain ⟨⟨⟨⟨⟨⟨h1, h2⟩, h3⟩, h4⟩, h5⟩, h6⟩, h7⟩ := h
  refine ⟨by omega, h2, by omega, h5, fun i hi => ?_, h3, fun i hi => ?_⟩
  · have k := h6 i hi
    simp only [nameAt, Bool.and_eq_true, Bool.not_eq_true'] at k
    exact k
  · have k := h7 i hi
    simp only [rowAt, Bool.and_eq_true, decide_eq_true_eq] at k
    exact ⟨k.1.1, k.1.2, k.2⟩
theorem nameB_len {l : List UInt8} (h : nameB l = true) : 1 ≤ l.length ∧ l.length ≤ 12 := by
  simp only [nameB, Bool.and_eq_true, inZ_iff] at h
  omega
theorem valB_iff {n : Int} : valB n = true ↔ -2147483647 ≤ n ∧ n ≤ 2147483647 := inZ_iff
theorem rowTx_len (r : List Int) (y : Int) : (rowTx r y).length = r.length + 1 := by simp [rowTx]
theorem rowTx_mem {r : List Int} {y : Int} : ∀ p ∈ rowTx r y, p.length ≤ 20 := by
  intro p hp
  rcases List.mem_append.1 hp with hp | hp
  · obtain ⟨z, _, rfl⟩ := List.mem_map.1 hp
    exact fixT_len z
  · obtain rfl := List.mem_singleton.1 hp
    exact fixT_len y
theorem names_mem {T : Tab} (h : okT T = true) : ∀ p ∈ T.ns ++ [T.y], p.length ≤ 12 := by
  have ho := okT_head h
  intro p hp
  rcases List.mem_append.1 hp with hp | hp
  · obtain ⟨j, hj⟩ := List.getElem?_of_mem hp
    have hjl := (List.getElem?_eq_some_iff.1 hj).1
    have k := (ho.2.2.2.2.1 j hjl).1
    rw [List.getD_eq_getElem?_getD, hj] at k
    exact (nameB_len k).2
  · obtain rfl := List.mem_singleton.1 hp
    exact (nameB_len ho.2.1).2
theorem rowsTx_all {T : Tab} (h : okT T = true) {k : Nat} (hk : k ≤ T.rs.length) : ∀ r ∈ rowsTx T k, r.length ≤ 5 ∧ ∀ p ∈ r, p.length ≤ 20 := by
  have ho := okT_head h
  intro r hr
  unfold rowsTx at hr
  rcases List.mem_cons.1 hr with rfl | hr
  · exact ⟨by simp; omega, fun p hp => by have := names_mem h p hp; omega⟩
  · obtain ⟨i, hi, rfl⟩ := List.mem_map.1 hr
    have hi' := List.mem_range.1 hi
    exact ⟨by rw [rowTx_len, (ho.2.2.2.2.2.2 i (by omega)).1]; omega, rowTx_mem⟩
theorem rowsTx_length (T : Tab) (k : Nat) : (rowsTx T k).length = k + 1 := by simp [rowsTx]
theorem tabT_len {T : Tab} (h : okT T = true) : (csvT (rowsTx T T.rs.length)).length ≤ 8856 := by
  have ho := okT_head h
  have hl := rowsTx_length T T.rs.length
  have hn4 : T.rs.length ≤ 40 := ho.2.2.1.2
  have hb := csvT_bound (a := 5) (b := 20) _ (rowsTx_all h (Nat.le_refl _))
  clear ho h
  generalize rowsTx T T.rs.length = L at hb hl ⊢
  generalize T.rs.length = n at hl hn4
  generalize (csvT L).length = m at hb ⊢
  rw [hl] at hb
  omega
end Go.Proofs.YticeagjonfifbaaGreatDoor
namespace Go.Proofs.YticeagjonfifbaaGreatDoor
open Go.RowKit

def zeroT : Tab := ⟨[], [], [], []⟩
/-- The fields of a row, or the first that is no decimal. -/
noncomputable def fldsG : List (List UInt8) → Nat → List Int → List Int ⊕ Nat
  | [], _, acc => .inl acc
  | f :: t, k, acc => match rdV f with | none => .inr k | some x => fldsG t (k + 1) (acc ++ [x])
/-- The rows of a table with n names, or the first fault. -/
noncomputable def rowsG (n : Nat) : List (List (List UInt8)) → Nat → List (List Int) → List Int → (List (List Int) × List Int) ⊕ (Nat × Nat × Nat)
  | [], _, R, Y => .inl (R, Y)
  | r :: t, i, R, Y => if r.length = n + 1 then (match fldsG r 0 [] with | .inr k => .inr (9, i, k) | .inl xs => rowsG n t (i + 1) (R ++ [xs.take n]) (Y ++ [xs.getD n 0])) else .inr (4, i, 0)
/-- The table that rows of texts say. -/
noncomputable def tabV : List (List (List UInt8)) → Tab × Nat × Nat × Nat
  | [] => (zeroT, 3, 0, 0)
  | L :: t =>
    if (headF L).1 = 0 then
      (if inZ (t.length : Int) 1 40 = true then
        (match rowsG (L.length - 1) t 1 [] [] with
        | .inl (R, Y) => (⟨L.take (L.length - 1), L.getD (L.length - 1) [], R, Y⟩, 0, 0, 0)
        | .inr (c, i, k) => (zeroT, c, i, k))
      else (zeroT, 8, 0, 0))
    else (zeroT, (headF L).1, 0, (headF L).2)
/-- What reading a table answers: the table, and the fault's three numbers. -/
noncomputable def readT (l : List UInt8) : Tab × Nat × Nat × Nat :=
  if (csvQ l).2.1 = 0 then tabV (csvQ l).1 else (zeroT, (csvQ l).2.1, (csvQ l).2.2.1, (csvQ l).2.2.2)

theorem fldsG_len : ∀ {r : List (List UInt8)} {k : Nat} {acc xs : List Int}, fldsG r k acc = .inl xs → xs.length = acc.length + r.length
  | [], _, acc, xs, h => by
    simp only [fldsG, Sum.inl.injEq] at h
    rw [← h]
    simp
  | f :: t, k, acc, xs, h => by
    rw [fldsG] at h
    cases hf : rdV f with
    | none => rw [hf] at h; cases h
    | some x =>
      rw [hf] at h
      have ih := fldsG_len h
      simp only [List.length_append, List.length_cons, List.length_nil] at ih ⊢
      omega
theorem rdV_val {l : List UInt8} {x : Int} (h : rdV l = some x) : valB x = true := valB_iff.2 (rd_in h)
theorem fldsG_val : ∀ {r : List (List UInt8)} {k : Nat} {acc xs : List Int}, fldsG r k acc = .inl xs → acc.all valB = true → xs.all valB = true
  | [], _, acc, xs, h, ha => by
    simp only [fldsG, Sum.inl.injEq] at h
    rw [← h]
    exact ha
  | f :: t, k, acc, xs, h, ha => by
    rw [fldsG] at h
    cases hf : rdV f with
    | none => rw [hf] at h; cases h
    | some x =>
      rw [hf] at h
      refine fldsG_val h ?_
      rw [List.all_append, ha]
      simp [rdV_val hf]
theorem fldsG_text : ∀ (r : List Int) (k : Nat) (acc : List Int), r.all valB = true → fldsG (r.map fixT) k acc = .inl (acc ++ r)
  | [], _, acc, _ => by simp [fldsG]
  | x :: t, k, acc, h => by
    rw [List.all_cons, Bool.and_eq_true] at h
    have hx := valB_iff.1 h.1
    rw [List.map_cons, fldsG, rd_fixT hx.1 hx.2]
    simp only
    rw [fldsG_text t (k + 1) _ h.2]
    simp
theorem rowsG_ok {n : Nat} : ∀ {t : List (List (List UInt8))} {i : Nat} {R R' : List (List Int)} {Y Y' : List Int}, rowsG n t i R Y = .inl (R', Y') → (∀ r ∈ R, r.length = n ∧ r.all valB = true) → Y.all valB = true → R'.length = R.length + t.length ∧ Y'.length = Y.length + t.length ∧ (∀ r ∈ R', r.length = n ∧ r.all valB = true) ∧ Y'.all valB = true
  | [], i, R, R', Y, Y', h, hR, hY => by
    simp only [rowsG, Sum.inl.injEq, Prod.mk.injEq] at h
    obtain ⟨rfl, rfl⟩ := h
    exact ⟨by simp, by simp, hR, hY⟩
  | r :: t, i, R, R', Y, Y', h, hR, hY => by
    rw [rowsG] at h
    by_cases hl : r.length = n + 1
    · rw [if_pos hl] at h
      cases hf : fldsG r 0 [] with
      | inr k => rw [hf] at h; cases h
      | inl xs =>
        rw [hf] at h
        have hx := fldsG_len hf
        have hv := fldsG_val hf rfl
        have hx' : xs.length = n + 1 := by simp only [List.length_nil] at hx; omega
        have ih := rowsG_ok h (fun a ha => by
          rcases List.mem_append.1 ha with ha | ha
          · exact hR a ha
          · obtain rfl := List.mem_singleton.1 ha
            refine ⟨by simp; omega, List.all_eq_true.2 fun z hz => List.all_eq_true.1 hv z (List.mem_of_mem_take hz)⟩) (by
          rw [List.all_append, hY]
          have hm : xs.getD n 0 ∈ xs := by
            rw [List.getD_eq_getElem?_getD, List.getElem?_eq_getElem (by omega)]
            exact List.getElem_mem _
          rw [List.all_cons, List.all_eq_true.1 hv _ hm]
          rfl)
        refine ⟨?_, ?_, ih.2.2.1, ih.2.2.2⟩
        · have := ih.1
          simp only [List.length_append, List.length_cons, List.length_nil] at this ⊢
          omega
        · have := ih.2.1
          simp only [List.length_append, List.length_cons, List.length_nil] at this ⊢
          omega
    · rw [if_neg hl] at h
      cases h
theorem rowsG_code {n : Nat} : ∀ {t : List (List (List UInt8))} {i : Nat} {R : List (List Int)} {Y : List Int} {c a b : Nat}, rowsG n t i R Y = .inr (c, a, b) → c ≠ 0
  | [], _, _, _, _, _, _, h => by simp [rowsG] at h
  | r :: t, i, R, Y, c, a, b, h => by
    rw [rowsG] at h
    by_cases hl : r.length = n + 1
    · rw [if_pos hl] at h
      cases hf : fldsG r 0 [] with
      | inr k =>
        rw [hf] at h
        simp only [Sum.inr.injEq, Prod.mk.injEq] at h
        omega
      | inl xs =>
        rw [hf] at h
        exact rowsG_code h
    · rw [if_neg hl] at h
      simp only [Sum.inr.injEq, Prod.mk.injEq] at h
      omega
theorem tabV_ok {L : List (List (List UInt8))} (h : (tabV L).2.1 = 0) : okT (tabV L).1 = true := by
  cases L with
  | nil => simp [tabV] at h
  | cons N t =>
    rw [tabV] at h ⊢
    by_cases hh : (headF N).1 = 0
    · rw [if_pos hh] at h ⊢
      by_cases hi : inZ (t.length : Int) 1 40 = true
      · rw [if_pos hi] at h ⊢
        cases hr : rowsG (N.length - 1) t 1 [] [] with
        | inr q =>
          obtain ⟨c, i, k⟩ := q
          rw [hr] at h
          simp only at h
          exact absurd h (rowsG_code hr)
        | inl q =>
          obtain ⟨R, Y⟩ := q
          simp only
          have ho := headF_ok hh
          have hk := rowsG_ok hr (by simp) rfl
          have ht := inZ_iff.1 hi
          simp only [List.length_nil, Nat.zero_add] at hk
          have hl : (N.take (N.length - 1)).length = N.length - 1 := by simp
          have hy := nmB_iff.1 (ho.2.2 (N.length - 1) (by omega))
          simp only [okT, headB, Bool.and_eq_true, inZ_iff, List.all_eq_true, List.mem_range, decide_eq_true_eq, Bool.not_eq_true', hl]
          refine ⟨⟨⟨⟨⟨⟨by omega, hy.1⟩, hy.2⟩, by omega⟩, by omega⟩, fun i hi => ?_⟩, fun i hi => ?_⟩
          · have hn := nmB_iff.1 (ho.2.2 i (by omega))
            have e1 : (N.take (N.length - 1)).getD i [] = N.getD i [] := by
              rw [List.getD_eq_getElem?_getD, List.getElem?_take, if_pos hi, List.getD_eq_getElem?_getD]
            have e2 : (N.take (N.length - 1)).take i = N.take i := by rw [List.take_take, Nat.min_eq_left (by omega)]
            simp only [nameAt, e1, e2, hn.1, hn.2]
            rfl
          · have h1 : R[i]? = some R[i] := List.getElem?_eq_getElem hi
            have e1 : R.getD i [] = R[i] := by rw [List.getD_eq_getElem?_getD, h1]; rfl
            have hm := hk.2.2.1 R[i] (List.getElem_mem hi)
            have hiy : i < Y.length := by omega
            have e2 : Y.getD i 0 = Y[i] := by rw [List.getD_eq_getElem?_getD, List.getElem?_eq_getElem hiy]; rfl
            simp only [rowAt, e1, e2, hl, hm.1, hm.2, List.all_eq_true.1 hk.2.2.2 Y[i] (List.getElem_mem hiy)]
            simp
      · rw [if_neg hi] at h
        simp at h
    · rw [if_neg hh] at h
      exact absurd h hh
theorem readT_ok {l : List UInt8} (h : (readT l).2.1 = 0) : okT (readT l).1 = true := by
  unfold readT at h ⊢
  by_cases hc : (csvQ l).2.1 = 0
  · rw [if_pos hc] at h ⊢
    exact tabV_ok h
  · rw [if_neg hc] at h
    exact absurd h hc
theorem rowsG_text {T : Tab} (h : okT T = true) : ∀ (m k : Nat), k + m = T.rs.length → rowsG T.ns.length ((List.range' k m).map fun i => rowTx (T.rs.getD i []) (T.ys.getD i 0)) (k + 1) (T.rs.take k) (T.ys.take k) = .inl (T.rs, T.ys)
  | 0, k, hk => by
    have ho := okT_head h
    simp only [List.range'_zero, List.map_nil, rowsG, Sum.inl.injEq, Prod.mk.injEq]
    exact ⟨List.take_of_length_le (by omega), List.take_of_length_le (by omega)⟩
  | m + 1, k, hk => by
    have ho := okT_head h
    have hr := ho.2.2.2.2.2.2 k (by omega)
    have hkr : k < T.rs.length := by omega
    have hky : k < T.ys.length := by omega
    have e1 : T.rs.getD k [] = T.rs[k] := by rw [List.getD_eq_getElem?_getD, List.getElem?_eq_getElem hkr]; rfl
    have e2 : T.ys.getD k 0 = T.ys[k] := by rw [List.getD_eq_getElem?_getD, List.getElem?_eq_getElem hky]; rfl
    have hf : fldsG (rowTx (T.rs.getD k []) (T.ys.getD k 0)) 0 [] = .inl (T.rs.getD k [] ++ [T.ys.getD k 0]) := by
      have e : rowTx (T.rs.getD k []) (T.ys.getD k 0) = (T.rs.getD k [] ++ [T.ys.getD k 0]).map fixT := by simp [rowTx]
      rw [e, fldsG_text _ 0 [] (by rw [List.all_append, hr.2.2, List.all_cons, hr.2.1]; rfl)]
      rfl
    rw [List.range'_succ, List.map_cons, rowsG, if_pos (by rw [rowTx_len, hr.1]), hf]
    simp only
    have ht : (T.rs.getD k [] ++ [T.ys.getD k 0]).take T.ns.length = T.rs.getD k [] := by rw [← hr.1]; simp
    have hg : (T.rs.getD k [] ++ [T.ys.getD k 0]).getD T.ns.length 0 = T.ys.getD k 0 := by rw [← hr.1, List.getD_eq_getElem?_getD]; simp
    rw [ht, hg]
    have ih := rowsG_text h m (k + 1) (by omega)
    rw [List.take_add_one, List.take_add_one, List.getElem?_eq_getElem hkr, List.getElem?_eq_getElem hky] at ih
    rw [e1, e2]
    exact ih
theorem tabV_text {T : Tab} (h : okT T = true) : tabV (rowsTx T T.rs.length) = (T, 0, 0, 0) := by
  have ho := okT_head h
  unfold rowsTx
  rw [tabV]
  have hlen : (T.ns ++ [T.y]).length = T.ns.length + 1 := by simp
  have hh : headF (T.ns ++ [T.y]) = (0, 0) := by
    unfold headF
    rw [if_pos (inZ_iff.2 (by rw [hlen]; omega))]
    refine headG_ok _ 0 fun j _ hj => ?_
    rw [hlen] at hj
    rw [nmB_iff]
    by_cases hjn : j < T.ns.length
    · have e1 : (T.ns ++ [T.y]).getD j [] = T.ns.getD j [] := by rw [List.getD_eq_getElem?_getD, List.getElem?_append_left hjn, List.getD_eq_getElem?_getD]
      have e2 : (T.ns ++ [T.y]).take j = T.ns.take j := by rw [List.take_append_of_le_length (by omega)]
      rw [e1, e2]
      exact ho.2.2.2.2.1 j hjn
    · obtain rfl : j = T.ns.length := by omega
      have e1 : (T.ns ++ [T.y]).getD T.ns.length [] = T.y := by rw [List.getD_eq_getElem?_getD]; simp
      have e2 : (T.ns ++ [T.y]).take T.ns.length = T.ns := by simp
      rw [e1, e2]
      exact ⟨ho.2.1, ho.2.2.2.2.2.1⟩
  have hr := rowsG_text h T.rs.length 0 (by omega)
  rw [if_pos (by rw [hh]), if_pos (inZ_iff.2 (by simp; omega)), hlen]
  simp only [Nat.add_sub_cancel, List.take_zero, Nat.zero_add, ← List.range_eq_range'] at hr ⊢
  rw [hr]
  simp
theorem readT_text {T : Tab} (h : okT T = true) (hl : (tabT T).length ≤ 4000) : readT (tabT T) = (T, 0, 0, 0) := by
  have e : tabT T = csvT (rowsTx T T.rs.length) := by rw [tabT, if_pos h]
  have hq : csvQ (tabT T) = (rowsTx T T.rs.length, 0, 0, 0) := by
    refine csvQ_ok (by omega) ?_
    rw [e]
    refine rd_csvT fun r hr => ?_
    unfold rowsTx at hr
    rcases List.mem_cons.1 hr with rfl | hr
    · simp
    · obtain ⟨i, _, rfl⟩ := List.mem_map.1 hr
      simp [rowTx]
  unfold readT
  rw [hq, if_pos rfl]
  exact tabV_text h
end Go.Proofs.YticeagjonfifbaaGreatDoor
