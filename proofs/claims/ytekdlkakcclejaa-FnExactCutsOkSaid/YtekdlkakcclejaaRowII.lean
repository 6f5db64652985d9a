/-
  The laws' own helpers on lists of lists of numbers: equal, their size, their copy, their marks.
-/
import Derived.Test.YtekdlkakcclejaaRowSK
import Derived.Test.YtekdlkakcclejaaRowI
namespace Go.Proofs.Ytekdlkakcclejaa
open Go.RowKit

/-- v reads as the rows L in w. -/
def IIRow (w : World) (v : Value) (L : List (List Int)) : Prop :=
  (L = [] ∧ ∃ a c, v = .slice a 0 c) ∨ ∃ b off c, v = .slice (some ⟨b, off, none⟩) L.length c ∧ L.length ≤ 9223372036854775807 ∧ L.length ≤ c ∧ (∀ (j : Nat) row, L[j]? = some row → ∃ u, w.cell? ⟨b, off + j, none⟩ = some u ∧ IntRow w u row)

theorem IIRow.below {w w' : World} {v : Value} {L : List (List Int)} (h : IIRow w v L) (hB : Below w.heap.size w w') : IIRow w' v L := by
  rcases h with ⟨rfl, a, c, rfl⟩ | ⟨b, off, c, rfl, hl, hcap, hc⟩
  · exact Or.inl ⟨rfl, a, c, rfl⟩
  · refine Or.inr ⟨b, off, c, rfl, hl, hcap, fun j p hp => ?_⟩
    obtain ⟨u, hu, hr⟩ := hc j p hp
    exact ⟨u, (hB.cell (p := ⟨b, off + j, none⟩) (World.block_lt_of_cell? w _ hu)).trans hu, hr.below hB⟩

theorem infoSlI : (Try.prog.info? 24).map (fun i => (i.zero, i.size, i.bytes)) = some (some (.slice none 0 0), 1, 24) := by kernel_rfl

/-- v is a list of lists of the call's own that reads as L. -/
def IIOwn (w : World) (base : Nat) (v : Value) (L : List (List Int)) : Prop :=
  ∃ vs : List Value, w.ownsRow base 24 1 v L.length vs ∧ RowsOwn w base 3 vs (L.map intCells)

theorem IIOwn.below {w w' : World} {base : Nat} {v : Value} {L : List (List Int)} (h : IIOwn w base v L) (hB : Below w.heap.size w w') : IIOwn w' base v L := by
  obtain ⟨vs, ho, hr⟩ := h
  exact ⟨vs, ho.kept (grown_of_below hB none) (by cases hv : v.ownBlock <;> simp), hr.below hB⟩
theorem iiRow_of {w : World} {base : Nat} {v : Value} {vs : List Value} {L : List (List Int)} (ho : w.ownsRow base 24 1 v L.length vs) (hr : ∀ (j : Nat) u row, vs[j]? = some u → L[j]? = some row → IntRow w u row) (hl : L.length ≤ 9223372036854775807) : IIRow w v L := by
  rcases ho.2 with ⟨rfl, h0⟩ | ⟨g, cap, cur, rfl, _, _, hnc, _, _, _⟩
  · exact Or.inl ⟨List.eq_nil_of_length_eq_zero h0, _, _, rfl⟩
  · refine Or.inr ⟨g, 0, cap, rfl, hl, hnc, fun j p hj => ?_⟩
    have hjl := (List.getElem?_eq_some_iff.1 hj).1
    have hlen := ho.1
    have hu : vs[j]? = some vs[j] := List.getElem?_eq_getElem (by omega)
    refine ⟨vs[j], ?_, hr j _ p hu hj⟩
    rw [Nat.zero_add, ho.cellAt j (by omega)]
    exact hu
theorem IIOwn.row {w : World} {base : Nat} {v : Value} {L : List (List Int)} (h : IIOwn w base v L) (hl : L.length ≤ 9223372036854775807) (hr : ∀ row ∈ L, row.length ≤ 9223372036854775807) : IIRow w v L := by
  obtain ⟨vs, ho, hR⟩ := h
  refine iiRow_of ho (fun j u row hu hj => ?_) hl
  have hc : (L.map intCells)[j]? = some (intCells row) := by rw [List.getElem?_map, hj]; rfl
  have := hR.2.1 j u _ hu hc
  rw [intCells_len] at this
  exact intRow_of_owns this (hr row (List.mem_of_getElem? hj))

/-- What the size of a list of rows counts. -/
def szLI (L : List (List Int)) : Nat := (L.map fun r => r.length).sum
theorem szLI_take_succ {L : List (List Int)} {k : Nat} {p : List Int} (h : L[k]? = some p) : szLI (L.take (k + 1)) = szLI (L.take k) + (p.length) := by
  unfold szLI
  rw [List.take_add_one, h, List.map_append, List.sum_append]
  simp
theorem szLI_take_le (L : List (List Int)) (k : Nat) : szLI (L.take k) ≤ szLI L := by
  have e : szLI L = szLI (L.take k) + szLI (L.drop k) := by
    unfold szLI
    rw [← List.sum_append, ← List.map_append, List.take_append_drop]
  omega
theorem szLI_mem {L : List (List Int)} {r : List Int} (h : r ∈ L) : r.length ≤ szLI L := by
  induction L with
  | nil => cases h
  | cons a t ih =>
    have e : szLI (a :: t) = (a.length) + szLI t := by simp [szLI]
    rcases List.mem_cons.1 h with rfl | h
    · omega
    · have := ih h
      omega

/-- The first j rows are copied. -/
def IIFilled (w : World) (base : Nat) (v : Value) (n : Nat) (L : List (List Int)) (j : Nat) : Prop :=
  ∃ vs : List Value, w.ownsRow base 24 1 v n vs ∧ RowsOwn w base 3 (vs.take j) ((L.take j).map intCells)
theorem IIFilled.done {w : World} {base : Nat} {v : Value} {L : List (List Int)} (h : IIFilled w base v L.length L L.length) : IIOwn w base v L := by
  obtain ⟨vs, ho, hr⟩ := h
  have hlen := ho.1
  rw [List.take_of_length_le (by omega), List.take_of_length_le (Nat.le_refl _)] at hr
  exact ⟨vs, ho, hr⟩
theorem IIFilled.cell {w : World} {base g cap : Nat} {n j : Nat} {L : List (List Int)} (h : IIFilled w base (.slice (some ⟨g, 0, none⟩) n cap) n L j) {i : Nat} (hi : i < n) : (∃ x, w.cell? ⟨g, i, none⟩ = some x) ∧ w.frozen? ⟨g, i, none⟩ = false := by
  obtain ⟨xs, ho, hx⟩ := h
  have hxl := ho.1
  refine ⟨⟨xs[i]'(by omega), ?_⟩, ho.frozenAt i⟩
  rw [ho.cellAt i (by omega), List.getElem?_eq_getElem (by omega)]
theorem IIFilled.below {w w' : World} {base n j : Nat} {v : Value} {L : List (List Int)} (h : IIFilled w base v n L j) (hB : Below w.heap.size w w') : IIFilled w' base v n L j := by
  obtain ⟨vs, ho, hr⟩ := h
  exact ⟨vs, ho.kept (grown_of_below hB none) (by cases hv : v.ownBlock <;> simp), hr.below hB⟩
theorem IIFilled.step {wr w : World} {base g cap : Nat} {n j : Nat} {L : List (List Int)} {p : List Int} {u : Value} (h : IIFilled wr base (.slice (some ⟨g, 0, none⟩) n cap) n L j) (hB : Below wr.heap.size wr w) (hj : j < n) (hp : L[j]? = some p)
    (hu : w.ownsRow wr.heap.size 3 1 u p.length (intCells p)) (hlo : base ≤ wr.heap.size) :
    IIFilled (w.setCell ⟨g, j, none⟩ u) base (.slice (some ⟨g, 0, none⟩) n cap) n L (j + 1) := by
  obtain ⟨vs, ho0, hr0⟩ := h
  have ho := ho0.kept (grown_of_below hB none) (Or.inr (by simp [Value.ownBlock]))
  have hr := hr0.below hB
  have hs := ho.stored j u
  have hxl := ho.1
  have hT : 3 ≠ 24 := by decide
  have hr2 := hr.outer ho hT hs.2
  have hu2 : (w.setCell ⟨g, j, none⟩ u).ownsRow base 3 1 u (intCells p).length (intCells p) := by
    rw [intCells_len]
    refine World.ownsRow.mono (hu.kept hs.2 ?_) hlo
    cases hb : u.ownBlock with
    | none => exact Or.inl rfl
    | some b => exact Or.inr (fun e => owns_apart hu ho hT b hb e.symm)
  refine ⟨_, hs.1, ?_⟩
  have e1 : (vs.set j u).take (j + 1) = vs.take j ++ [u] := by
    have hjv : j < vs.length := by omega
    rw [List.take_add_one, List.getElem?_set_self hjv, List.take_set_of_le (Nat.le_refl _)]
    rfl
  have e2 : (L.take (j + 1)).map intCells = (L.take j).map intCells ++ [intCells p] := by
    rw [List.take_add_one, hp, List.map_append]
    rfl
  rw [e1, e2]
  exact hr2.snoc (lo := wr.heap.size) hu2 (fun i x b hx hb => (hr0.lt hx hb).2) (fun b hb => (hu.lt b hb).1)

theorem toIP (w : World) (v : Value) (ps : List Int) (h : IntRow w v ps) (hl : ps.length ≤ 1048576) :
    Calls Try.prog 22 #[v] w fun e w' => ∃ u, e = .returned u ∧ w'.ownsRow w.heap.size 3 1 u ps.length (intCells ps) ∧ Below w.heap.size w w' := toI w v ps h hl

/-- The marks of rows of these lengths, from k on. -/
def marksLI (k : Nat) : List Nat → List (List Int)
  | [] => []
  | n :: r => marksI k n :: marksLI (k + n) r
theorem marksLI_len : ∀ (ns : List Nat) (k : Nat), (marksLI k ns).length = ns.length
  | [], _ => rfl
  | n :: r, k => by rw [marksLI, List.length_cons, List.length_cons, marksLI_len r]
theorem marksLI_at : ∀ (ns : List Nat) (k j n : Nat), ns[j]? = some n → (marksLI k ns)[j]? = some (marksI (k + (ns.take j).sum) n)
  | [], _, _, _, h => by simp at h
  | m :: r, k, 0, n, h => by
    obtain rfl : m = n := by simpa using h
    simp [marksLI]
  | m :: r, k, j + 1, n, h => by
    have ih := marksLI_at r (k + m) j n (by simpa using h)
    rw [marksLI, List.getElem?_cons_succ, ih]
    congr 2
    simp only [List.take_succ_cons, List.sum_cons]
    omega
theorem heldIB (w : World) (v : Value) (n k : Nat) (h : IntRow w v (marksI k n)) (hkl : k ≤ 140737488355328) (hnl : n ≤ 140737488355328) :
    Calls Try.prog 25 #[v, .int .i64 k] w fun e w' => e = .returned (.int .i64 ((k : Int) + n)) ∧ Below w.heap.size w w' :=
  (heldI w v n k h hkl hnl).mono fun e w' ⟨he, q, hq⟩ => ⟨he, by
    have h := Below.refl w.heap.size w
    rw [hq]
    exact ⟨h.os, h.tape, h.output, h.size, h.block⟩⟩

/-- The rows before j are marked. -/
def MarkInvI (w : World) (base : Nat) (v : Value) (n : Nat) (vs : List Value) (ns : List Nat) (k j : Nat) : Prop :=
  ∃ C : List (List Value), w.ownsRow base 24 1 v n vs ∧ RowsOwn w base 3 vs C ∧ C.map List.length = ns ∧ (∀ (i m : Nat), i < j → ns[i]? = some m → C[i]? = some (intCells (marksI (k + (ns.take i).sum) m)))
theorem MarkInvI.row {w : World} {base n k j : Nat} {v : Value} {vs : List Value} {ns : List Nat} (h : MarkInvI w base v n vs ns k j) (hn : ns.length = n) (hj : j < n) : ∃ u m c, vs[j]? = some u ∧ ns[j]? = some m ∧ w.ownsRow base 3 1 u m c ∧ c.length = m := by
  obtain ⟨C, ho, hr, hC, _⟩ := h
  have hlen := congrArg List.length hC
  rw [List.length_map, hn] at hlen
  have hvl := hr.1
  have hCj : C[j]? = some C[j] := List.getElem?_eq_getElem (by omega)
  have hvj : vs[j]? = some vs[j] := List.getElem?_eq_getElem (by omega)
  refine ⟨vs[j], C[j].length, C[j], hvj, ?_, hr.2.1 j _ _ hvj hCj, rfl⟩
  rw [← hC, List.getElem?_map, hCj]
  rfl
theorem MarkInvI.step {w w' : World} {base n k j m : Nat} {v u : Value} {vs : List Value} {ns : List Nat} (h : MarkInvI w base v n vs ns k j) (hn : ns.length = n) (hj : j < n) (hu : vs[j]? = some u) (hm : ns[j]? = some m) (hg : w.grownBy w' u.ownBlock)
    (hM : w'.ownsRow base 3 1 u m (intCells (marksI (k + (ns.take j).sum) m))) : MarkInvI w' base v n vs ns k (j + 1) := by
  obtain ⟨C, ho, hr, hC, hx⟩ := h
  have hlen := congrArg List.length hC
  rw [List.length_map, hn] at hlen
  have hvl := hr.1
  have hCj : C[j]? = some C[j] := List.getElem?_eq_getElem (by omega)
  have hT : 3 ≠ 24 := by decide
  refine ⟨C.set j (intCells (marksI (k + (ns.take j).sum) m)), ho.kept hg ?_, hr.put hu hg (by rw [intCells_len, marksI_len]; exact hM), ?_, fun i q hi hq => ?_⟩
  · cases hb : v.ownBlock with
    | none => exact Or.inl rfl
    | some b => exact Or.inr (fun e => owns_apart (hr.2.1 j u _ hu hCj) ho hT b e.symm hb)
  · rw [List.map_set, hC, intCells_len, marksI_len]
    exact set_self hm
  · by_cases e : j = i
    · subst e
      rw [hm] at hq
      obtain rfl := Option.some.inj hq
      rw [List.getElem?_set_self (by omega)]
    · rw [List.getElem?_set_ne e]
      exact hx i q (by omega) hq
theorem MarkInvI.done {w : World} {base n k : Nat} {v : Value} {vs : List Value} {ns : List Nat} (h : MarkInvI w base v n vs ns k n) (hn : ns.length = n) : w.ownsRow base 24 1 v n vs ∧ RowsOwn w base 3 vs ((marksLI k ns).map intCells) := by
  obtain ⟨C, ho, hr, hC, hx⟩ := h
  have hlen := congrArg List.length hC
  rw [List.length_map, hn] at hlen
  have e : C = (marksLI k ns).map intCells := by
    refine List.ext_getElem? fun i => ?_
    by_cases hi : i < n
    · have hm : ns[i]? = some ns[i] := List.getElem?_eq_getElem (by omega)
      rw [hx i _ hi hm, List.getElem?_map, marksLI_at ns k i _ hm]
      rfl
    · rw [List.getElem?_eq_none (by omega), List.getElem?_eq_none (by rw [List.length_map, marksLI_len]; omega)]
  exact ⟨ho, e ▸ hr⟩

end Go.Proofs.Ytekdlkakcclejaa
