/-
  Bytes that a call gathers in a slice of its own.
  The laws' own helpers on lists of lists of texts: equal, their size, their copy, their marks.
  What an argument of rows of texts gives the walks.
  What the reference answers for one field of a text.
  What the reference answers for a field's text and for the text of rows.
  The laws' own helpers on lists of lists of texts: their size, their copy, their marks.
  The state of the reading of a text's rows.
  What the reference answers for two lists of rows: whether they are equal.
  The laws' own helpers on lists of lists of texts: their marks.
-/
import Derived.Test.YtgknkjiifcnkpaaPk1
import Derived.Test.YtgknkjiifcnkpaaRowS
import Derived.Lib.UnsafeStr
import Derived.Test.YtgknkjiifcnkpaaArgsB
import Derived.Deep.Onto
import Derived.OpenShut
import Derived.SliceStrings
import Derived.Deep.Slices
import Derived.Carry
import Derived.SizedLaws
import Derived.Deep.LoopGhost
namespace Go.Proofs.Ytgknkjiifcnkpaa
open Go.RowKit

/-- v is a row of the call's own, not nil, that holds the bytes l. -/
def ByRow (wr : World) (base : Nat) (v : Value) (l : List UInt8) : Prop := wr.ownsRow base 5 1 v l.length (Lib.byteCells l) ∧ ∃ g cap, v = .slice (some ⟨g, 0, none⟩) l.length cap

theorem byRow_conv {P : Program} {src dst e : TypeId} (hs : P.underlying src = some (.slice e)) (he : P.underlying e = some (.int .u8)) (hd : P.underlying dst = some .string) {wr : World} {base g n cap : Nat} {l : List UInt8}
    (h : ByRow wr base (.slice (some ⟨g, 0, none⟩) n cap) l) :
    (convert src dst (.slice (some ⟨g, 0, none⟩) n cap)).run P wr = .ok (.string ⟨l.toArray⟩) wr := by
  obtain ⟨ho, g', cap', he'⟩ := h
  injection he' with h1 h2 h3
  subst h2
  refine run_convert_bytes_back wr src dst e ⟨g, 0, none⟩ cap l hs he hd fun j hj => ?_
  have hc := ho.cells (g := g) rfl j (.int .u8 (l[j].toNat : Int)) (by unfold Lib.byteCells; rw [List.getElem?_map, List.getElem?_eq_getElem hj]; rfl)
  exact hc

theorem byRow_one {w1 : World} {base : Nat} {v1 : Value} {l : List UInt8} {c : UInt8} {z : Int} (hz : z = (c.toNat : Int)) (ho : w1.ownsRow base 5 1 v1 (l.length + 1) (Lib.byteCells l ++ [.int .u8 z])) : ByRow w1 base v1 (l ++ [c]) := by
  have e1 : (l ++ [c]).length = l.length + 1 := by simp
  have e2 : Lib.byteCells (l ++ [c]) = Lib.byteCells l ++ [.int .u8 z] := by simp [Lib.byteCells, hz]
  obtain ⟨g, cap, rfl⟩ := Joins.ownsRow_form ho (by omega)
  exact ⟨by rw [e1, e2]; exact ho, g, cap, by rw [e1]⟩
theorem byRow_str {wr w1 : World} {base : Nat} {v v1 : Value} {l : List UInt8} {s : ByteArray} (h : ByRow wr base v l) (ho : w1.ownsRow base 5 1 v1 (l.length + s.size) (Lib.byteCells l ++ Lib.strCells s)) (hn : v1 = .slice none 0 0 ↔ v = .slice none 0 0 ∧ s.size = 0) :
    ByRow w1 base v1 (l ++ s.data.toList) := by
  obtain ⟨_, g, cap, rfl⟩ := h
  have e1 : (l ++ s.data.toList).length = l.length + s.size := by rw [List.length_append, Lib.size_eq]
  have e2 : Lib.byteCells (l ++ s.data.toList) = Lib.byteCells l ++ Lib.strCells s := by rw [Lib.strCells_eq]; simp [Lib.byteCells]
  refine ⟨by rw [e1, e2]; exact ho, ?_⟩
  rw [e1]
  rcases ho.2 with ⟨h0, _⟩ | ⟨g', cap', cur, h0, _⟩
  · have := hn.1 h0
    cases this.1
  · exact ⟨g', cap', h0⟩
theorem byRow_strN {w1 : World} {base : Nat} {v1 : Value} {l : List UInt8} {s : ByteArray} (ho : w1.ownsRow base 5 1 v1 (l.length + s.size) (Lib.byteCells l ++ Lib.strCells s)) (hn : ¬ v1 = .slice none 0 0) :
    ByRow w1 base v1 (l ++ s.data.toList) := by
  have e1 : (l ++ s.data.toList).length = l.length + s.size := by rw [List.length_append, Lib.size_eq]
  have e2 : Lib.byteCells (l ++ s.data.toList) = Lib.byteCells l ++ Lib.strCells s := by rw [Lib.strCells_eq]; simp [Lib.byteCells]
  refine ⟨by rw [e1, e2]; exact ho, ?_⟩
  rw [e1]
  rcases ho.2 with ⟨h0, _⟩ | ⟨g', cap', cur, h0, _⟩
  · exact absurd h0 hn
  · exact ⟨g', cap', h0⟩
theorem byRow_made (w : World) : ByRow (w.alloc (.cells #[] 5)) w.heap.size (.slice (some ⟨w.heap.size, 0, none⟩) 0 0) [] :=
  ⟨World.ownsRow_made w #[] 0 (Nat.le_refl _) (by unfold maxLen; omega) (by simp), w.heap.size, 0, rfl⟩
theorem byRow_lit (w : World) (c : UInt8) (z : Int) (hz : z = (c.toNat : Int)) : ByRow (w.alloc (.cells #[.int .u8 z] 5)) w.heap.size (.slice (some ⟨w.heap.size, 0, none⟩) 1 1) [c] := by
  subst hz
  exact ⟨World.ownsRow_lit (size := 1) w #[.int .u8 (c.toNat : Int)] 1 (Nat.le_refl _) (by unfold maxLen; omega) (by simp), w.heap.size, 1, rfl⟩
theorem ByRow.below {w w' : World} {base : Nat} {v : Value} {l : List UInt8} (h : ByRow w base v l) (hB : Below w.heap.size w w') : ByRow w' base v l :=
  ⟨h.1.kept (grown_of_below hB none) (by cases hv : v.ownBlock <;> simp), h.2⟩
/-- Below is kept by an append of one byte. -/
theorem below_one {W wr w1 : World} {base : Nat} {T : TypeId} {v x : Value} {l : List UInt8} (hb : base ≤ wr.heap.size) (hB : Below base W wr) (ho : ByRow wr base v l) (hg : (wr.alloc (.cells #[x] T)).grownBy w1 v.ownBlock) : Below base W w1 :=
  (hB.alloc hb (.cells #[x] T)).grown hg (by simp; omega) (fun j hj => (ho.1.lt j hj).1)
theorem below_str {W wr w1 : World} {base : Nat} {v : Value} {l : List UInt8} (hb : base ≤ wr.heap.size) (hB : Below base W wr) (ho : ByRow wr base v l) (hg : wr.grownBy w1 v.ownBlock) : Below base W w1 :=
  hB.grown hg hb (fun j hj => (ho.1.lt j hj).1)
theorem byte_ne {a c : UInt8} (h : ¬ a = c) : ((a.toNat : Int) == (c.toNat : Int)) = false := by
  rw [beq_eq_false_iff_ne]
  intro e
  exact h (UInt8.toNat_inj.1 (by omega))
theorem byte_eq {a c : UInt8} (h : a = c) : ((a.toNat : Int) == (c.toNat : Int)) = true := by rw [h]; simp
theorem at_list {s : ByteArray} {k : Nat} (h : k < s.size) : s.data.toList[k]? = some s[k] := by
  rw [List.getElem?_eq_getElem (by rw [← Lib.size_eq]; exact h)]
  simp
  rfl
theorem take_at {s : ByteArray} {k : Nat} (h : k < s.size) : s.data.toList.take (k + 1) = s.data.toList.take k ++ [s[k]] := by
  rw [List.take_add_one, at_list h]
  rfl
theorem take_all (s : ByteArray) : s.data.toList.take s.size = s.data.toList := List.take_of_length_le (by rw [← Lib.size_eq]; exact Nat.le_refl _)
end Go.Proofs.Ytgknkjiifcnkpaa
namespace Go.Proofs.Ytgknkjiifcnkpaa
open Go.RowKit

/-- v reads as the rows L in w. -/
def SSRow (w : World) (v : Value) (L : List (List (List UInt8))) : Prop :=
  (L = [] ∧ ∃ a c, v = .slice a 0 c) ∨ ∃ b off c, v = .slice (some ⟨b, off, none⟩) L.length c ∧ L.length ≤ 9223372036854775807 ∧ L.length ≤ c ∧ (∀ (j : Nat) row, L[j]? = some row → ∃ u, w.cell? ⟨b, off + j, none⟩ = some u ∧ StrRow w u row)

theorem SSRow.below {w w' : World} {v : Value} {L : List (List (List UInt8))} (h : SSRow w v L) (hB : Below w.heap.size w w') : SSRow w' v L := by
  rcases h with ⟨rfl, a, c, rfl⟩ | ⟨b, off, c, rfl, hl, hcap, hc⟩
  · exact Or.inl ⟨rfl, a, c, rfl⟩
  · refine Or.inr ⟨b, off, c, rfl, hl, hcap, fun j p hp => ?_⟩
    obtain ⟨u, hu, hr⟩ := hc j p hp
    exact ⟨u, (hB.cell (p := ⟨b, off + j, none⟩) (World.block_lt_of_cell? w _ hu)).trans hu, hr.below hB⟩

theorem infoSlS : (Try.prog.info? 31).map (fun i => (i.zero, i.size, i.bytes)) = some (some (.slice none 0 0), 1, 24) := by kernel_rfl

/-- Rows of the call's own, each apart from the others. -/
def RowsOwn (w : World) (base : Nat) (T : TypeId) (vs : List Value) (C : List (List Value)) : Prop :=
  vs.length = C.length ∧ (∀ (j : Nat) u c, vs[j]? = some u → C[j]? = some c → w.ownsRow base T 1 u c.length c) ∧ (∀ (i j : Nat) u v b, i ≠ j → vs[i]? = some u → vs[j]? = some v → u.ownBlock = some b → v.ownBlock ≠ some b)

theorem RowsOwn.nil (w : World) (base : Nat) (T : TypeId) : RowsOwn w base T [] [] := ⟨rfl, by simp, by simp⟩

theorem RowsOwn.kept {w w' : World} {base : Nat} {T : TypeId} {vs : List Value} {C : List (List Value)} {r : Option Nat} (h : RowsOwn w base T vs C) (hg : w.grownBy w' r) (hne : ∀ (j : Nat) u g, vs[j]? = some u → u.ownBlock = some g → r ≠ some g) : RowsOwn w' base T vs C := by
  refine ⟨h.1, fun j u c hu hc => (h.2.1 j u c hu hc).kept hg ?_, h.2.2⟩
  cases hb : u.ownBlock with
  | none => exact Or.inl rfl
  | some g => exact Or.inr fun e => hne j u g hu hb e.symm
theorem RowsOwn.below {w w' : World} {base : Nat} {T : TypeId} {vs : List Value} {C : List (List Value)} (h : RowsOwn w base T vs C) (hB : Below w.heap.size w w') : RowsOwn w' base T vs C :=
  h.kept (grown_of_below hB none) (fun _ _ _ _ _ => by simp)
theorem RowsOwn.outer {w w' : World} {base base' n : Nat} {T T' : TypeId} {v : Value} {xs : List Value} {vs : List Value} {C : List (List Value)} (h : RowsOwn w base T vs C) (ho : w.ownsRow base' T' 1 v n xs) (hT : T ≠ T') (hg : w.grownBy w' v.ownBlock) : RowsOwn w' base T vs C := by
  refine h.kept hg fun j u g hu hb e => ?_
  have hj : j < C.length := by rw [← h.1]; exact (List.getElem?_eq_some_iff.1 hu).1
  exact owns_apart (h.2.1 j u C[j] hu (List.getElem?_eq_getElem hj)) ho hT g hb e
theorem RowsOwn.lt {w : World} {base : Nat} {T : TypeId} {vs : List Value} {C : List (List Value)} (h : RowsOwn w base T vs C) {j g : Nat} {u : Value} (hu : vs[j]? = some u) (hb : u.ownBlock = some g) : base ≤ g ∧ g < w.heap.size := by
  have hj : j < C.length := by rw [← h.1]; exact (List.getElem?_eq_some_iff.1 hu).1
  exact (h.2.1 j u C[j] hu (List.getElem?_eq_getElem hj)).lt g hb
theorem RowsOwn.snoc {w : World} {base lo : Nat} {T : TypeId} {vs : List Value} {C : List (List Value)} {u : Value} {c : List Value} (h : RowsOwn w base T vs C) (hu : w.ownsRow base T 1 u c.length c) (h1 : ∀ (j : Nat) x g, vs[j]? = some x → x.ownBlock = some g → g < lo) (h2 : ∀ g, u.ownBlock = some g → lo ≤ g) : RowsOwn w base T (vs ++ [u]) (C ++ [c]) := by
  have hl := h.1
  have key : ∀ (j : Nat) x, (vs ++ [u])[j]? = some x → vs[j]? = some x ∨ (j = vs.length ∧ x = u) := by
    intro j x hx
    by_cases hj : j < vs.length
    · rw [List.getElem?_append_left hj] at hx
      exact Or.inl hx
    · rw [List.getElem?_append_right (by omega)] at hx
      have hj0 : j - vs.length = 0 := by
        have := (List.getElem?_eq_some_iff.1 hx).1
        simp at this
        omega
      rw [hj0] at hx
      exact Or.inr ⟨by omega, by simpa using hx.symm⟩
  refine ⟨by simp [hl], fun j x d hx hd => ?_, fun i j x y b hij hx hy hb => ?_⟩
  · rcases key j x hx with hx | ⟨rfl, rfl⟩
    · have hj := (List.getElem?_eq_some_iff.1 hx).1
      rw [List.getElem?_append_left (by omega)] at hd
      exact h.2.1 j x d hx hd
    · rw [hl, List.getElem?_append_right (Nat.le_refl _)] at hd
      obtain rfl : c = d := by simpa using hd
      exact hu
  · intro hb2
    rcases key i x hx with hx2 | ⟨hi, hxu⟩
    · rcases key j y hy with hy2 | ⟨hj, hyu⟩
      · exact h.2.2 i j x y b hij hx2 hy2 hb hb2
      · have := h1 i x b hx2 hb
        rw [hyu] at hb2
        have := h2 b hb2
        omega
    · rcases key j y hy with hy2 | ⟨hj, hyu⟩
      · have := h1 j y b hy2 hb2
        rw [hxu] at hb
        have := h2 b hb
        omega
      · omega
theorem RowsOwn.put {w w' : World} {base : Nat} {T : TypeId} {vs : List Value} {C : List (List Value)} {j : Nat} {u : Value} {c : List Value} (h : RowsOwn w base T vs C) (hj : vs[j]? = some u) (hg : w.grownBy w' u.ownBlock) (hu : w'.ownsRow base T 1 u c.length c) : RowsOwn w' base T vs (C.set j c) := by
  have hl := h.1
  have hjl := (List.getElem?_eq_some_iff.1 hj).1
  refine ⟨by simp [hl], fun i x d hx hd => ?_, h.2.2⟩
  by_cases e : j = i
  · subst e
    rw [hj] at hx
    obtain rfl := Option.some.inj hx
    rw [List.getElem?_set_self (by omega)] at hd
    obtain rfl := Option.some.inj hd
    exact hu
  · rw [List.getElem?_set_ne e] at hd
    refine (h.2.1 i x d hx hd).kept hg ?_
    cases hb : x.ownBlock with
    | none => exact Or.inl rfl
    | some g => exact Or.inr fun e2 => h.2.2 i j x u g (fun e3 => e e3.symm) hx hj hb e2.symm

/-- v is a list of lists of the call's own that reads as L. -/
def SSOwn (w : World) (base : Nat) (v : Value) (L : List (List (List UInt8))) : Prop :=
  ∃ vs : List Value, w.ownsRow base 31 1 v L.length vs ∧ RowsOwn w base 9 vs (L.map strCells)

theorem SSOwn.below {w w' : World} {base : Nat} {v : Value} {L : List (List (List UInt8))} (h : SSOwn w base v L) (hB : Below w.heap.size w w') : SSOwn w' base v L := by
  obtain ⟨vs, ho, hr⟩ := h
  exact ⟨vs, ho.kept (grown_of_below hB none) (by cases hv : v.ownBlock <;> simp), hr.below hB⟩
theorem ssRow_of {w : World} {base : Nat} {v : Value} {vs : List Value} {L : List (List (List UInt8))} (ho : w.ownsRow base 31 1 v L.length vs) (hr : ∀ (j : Nat) u row, vs[j]? = some u → L[j]? = some row → StrRow w u row) (hl : L.length ≤ 9223372036854775807) : SSRow w v L := by
  rcases ho.2 with ⟨rfl, h0⟩ | ⟨g, cap, cur, rfl, _, _, hnc, _, _, _⟩
  · exact Or.inl ⟨List.eq_nil_of_length_eq_zero h0, _, _, rfl⟩
  · refine Or.inr ⟨g, 0, cap, rfl, hl, hnc, fun j p hj => ?_⟩
    have hjl := (List.getElem?_eq_some_iff.1 hj).1
    have hlen := ho.1
    have hu : vs[j]? = some vs[j] := List.getElem?_eq_getElem (by omega)
    refine ⟨vs[j], ?_, hr j _ p hu hj⟩
    rw [Nat.zero_add, ho.cellAt j (by omega)]
    exact hu
theorem SSOwn.row {w : World} {base : Nat} {v : Value} {L : List (List (List UInt8))} (h : SSOwn w base v L) (hl : L.length ≤ 9223372036854775807) (hr : ∀ row ∈ L, row.length ≤ 9223372036854775807) : SSRow w v L := by
  obtain ⟨vs, ho, hR⟩ := h
  refine ssRow_of ho (fun j u row hu hj => ?_) hl
  have hc : (L.map strCells)[j]? = some (strCells row) := by rw [List.getElem?_map, hj]; rfl
  have := hR.2.1 j u _ hu hc
  rw [strCells_len] at this
  exact strRow_of_owns this (hr row (List.mem_of_getElem? hj))

end Go.Proofs.Ytgknkjiifcnkpaa
namespace Go.Proofs.Ytgknkjiifcnkpaa
open Go.ChangeShapes Go.WideShapes Go.ChangeAt Go.RowKit

theorem cellsSlS : Try.prog.cellsOf 31 = 1 := by kernel_rfl

theorem addr_add {b off j : Nat} : (⟨b, off, none⟩ : Addr).add j = ⟨b, off + j, none⟩ := by unfold Addr.add; split <;> simp_all

theorem strs_trod {H : Type} {enc : TypeId × Value → H} {W : World} {sp : Nat → Bool} {base fuel : Nat} {held : Bool} {v : Value} {x : DataW H × List MemPlace}
    (h : DataW.trod enc Try.prog W base sp held fuel 31 [v] = some x) (hsp : ∀ b, sp b = true) :
    ∃ ps : List (List UInt8), StrRow W v ps ∧ ∀ p ∈ ps, p.length ≤ 9223372036854775807 := by
  rcases open_strings Try.underlying31 Try.underlying9 cellsStr h with ⟨hcs, hx⟩ | ⟨a', len', cap', ss, hcs, _, hl, hm, hz, hx, hcell, hwz⟩
  · obtain rfl : v = .slice none 0 0 := by simpa using hcs
    exact ⟨[], Or.inl ⟨rfl, _, _, rfl⟩, by simp⟩
  · obtain rfl : v = .slice (some a') len' cap' := by simpa using hcs
    simp only [hsp, if_true] at hz
    unfold maxLen at hm
    by_cases h0 : len' = 0
    · subst h0
      exact ⟨[], Or.inl ⟨rfl, _, _, rfl⟩, by simp⟩
    · obtain ⟨b, off, spot⟩ := a'
      have hspot : spot = none := by simpa [Addr.add] using World.cell?_spot (hcell 0 (by omega))
      subst hspot
      have hlen : ((ss.take len').map fun s => s.data.toList).length = len' := by simp; omega
      refine ⟨(ss.take len').map fun s => s.data.toList, Or.inr ⟨b, off, cap', by rw [hlen], by omega, by omega, fun j p hj => ?_⟩, ?_⟩
      · have hjn : j < len' := by
          have := (List.getElem?_eq_some_iff.1 hj).1
          omega
        have hc := hcell j (by omega)
        rw [addr_add] at hc
        rw [hc]
        rw [List.getElem?_map, List.getElem?_take, if_pos hjn, List.getElem?_eq_getElem (by omega)] at hj
        obtain rfl := Option.some.inj hj
        rw [List.getD_eq_getElem?_getD, List.getElem?_eq_getElem (by omega)]
        simp
      · intro p hp
        obtain ⟨s, hs, rfl⟩ := List.mem_map.1 hp
        have h1 := hwz s (List.mem_of_mem_take hs)
        unfold maxLen at h1
        have h2 := Lib.size_eq s
        omega

theorem rows_read {H : Type} {enc : TypeId × Value → H} {W : World} {sp : Nat → Bool} {a : Option Addr} {n c : Nat} {d : DataW H} {p : List MemPlace}
    (h : DataW.Trod enc Try.prog W 0 sp true 117 (.slice a n c) d p) (hsp : ∀ b, sp b = true := by intro _; rfl) :
    ∃ L : List (List (List UInt8)), SSRow W (.slice a n c) L ∧ ∀ r ∈ L, ∀ p ∈ r, p.length ≤ 9223372036854775807 := by
  obtain ⟨fuel, hf⟩ := h
  rcases Go.Deep.open_slice1 Try.underlying117 cellsSlS hf with ⟨hcs, hx⟩ | ⟨a', len', cap', m, n', V, D, Pl, hcs, _, hl, hm, hmm, hx, hcell⟩
  · simp [Value.cells] at hcs
    obtain ⟨rfl, rfl, rfl⟩ := hcs
    exact ⟨[], Or.inl ⟨rfl, _, _, rfl⟩, by simp⟩
  · simp [Value.cells] at hcs
    obtain ⟨rfl, rfl, rfl⟩ := hcs
    simp only [hsp, if_true] at hmm
    have hmc : m = c := hmm
    unfold maxLen at hm
    by_cases h0 : n = 0
    · subst h0
      exact ⟨[], Or.inl ⟨rfl, _, _, rfl⟩, by simp⟩
    · obtain ⟨b, off, spot⟩ := a'
      have hspot : spot = none := by simpa [Addr.add] using World.cell?_spot (hcell 0 (by omega)).1
      subst hspot
      obtain ⟨R, hR⟩ := Go.Deep.choose_lt (n := n) (p := fun i (ps : List (List UInt8)) => StrRow W (V i) ps ∧ ∀ p ∈ ps, p.length ≤ 9223372036854775807) (fun i hi => strs_trod (hcell i (by omega)).2 hsp)
      have hlen : ((List.range n).map R).length = n := by simp
      refine ⟨(List.range n).map R, Or.inr ⟨b, off, c, by rw [hlen], by omega, by omega, fun j row hj => ?_⟩, fun r hr => ?_⟩
      · have hjn : j < n := by
          have := (List.getElem?_eq_some_iff.1 hj).1
          omega
        have hc := (hcell j (by omega)).1
        rw [addr_add] at hc
        rw [List.getElem?_map, List.getElem?_range hjn] at hj
        obtain rfl := Option.some.inj hj
        exact ⟨V j, hc, (hR j hjn).1⟩
      · obtain ⟨i, hi, rfl⟩ := List.mem_map.1 hr
        exact (hR i (List.mem_range.1 hi)).2
end Go.Proofs.Ytgknkjiifcnkpaa
namespace Go.Proofs.Ytgknkjiifcnkpaa
open Go.RowKit

theorem drop_at {s : ByteArray} {p : Nat} (h : p < s.size) : s.data.toList.drop p = s[p] :: s.data.toList.drop (p + 1) := by
  have hl : p < s.data.toList.length := by rw [← Lib.size_eq]; exact h
  have e : s.data.toList[p] = s[p] := by simp; rfl
  rw [List.drop_eq_getElem_cons hl, e]
theorem drop_none {s : ByteArray} {p : Nat} (h : s.size ≤ p) : s.data.toList.drop p = [] := List.drop_of_length_le (by rw [← Lib.size_eq]; exact h)

/-- What has been read of a field, and what is still to come. -/
def ReadI (g : List UInt8 → Option (List UInt8 × List UInt8)) (l : List UInt8) (acc : List UInt8) (R : Option (List UInt8 × List UInt8)) : Prop := (g l).map (fun x => (acc ++ x.1, x.2)) = R
theorem readI_start (g : List UInt8 → Option (List UInt8 × List UInt8)) (l : List UInt8) : ReadI g l [] (g l) := by
  unfold ReadI
  cases g l <;> rfl
theorem qI_none {s : ByteArray} {p : Nat} {acc : List UInt8} {R : Option (List UInt8 × List UInt8)} (hp : s.size ≤ p) (h : ReadI rdQ (s.data.toList.drop p) acc R) : R = none := by
  rw [drop_none hp] at h
  exact h.symm
theorem qI_plain {s : ByteArray} {p : Nat} {acc : List UInt8} {R : Option (List UInt8 × List UInt8)} (hp : p < s.size) (hc : ¬ s[p] = 34) (h : ReadI rdQ (s.data.toList.drop p) acc R) : ReadI rdQ (s.data.toList.drop (p + 1)) (acc ++ [s[p]]) R := by
  unfold ReadI at h ⊢
  rw [drop_at hp, rdQ_plain hc] at h
  rw [← h, Option.map_map]
  congr 1
  funext x
  simp
theorem qI_two {s : ByteArray} {p : Nat} {acc : List UInt8} {R : Option (List UInt8 × List UInt8)} (hp : p + 1 < s.size) (hc : s[p] = 34) (hd : s[p + 1] = 34) (h : ReadI rdQ (s.data.toList.drop p) acc R) : ReadI rdQ (s.data.toList.drop (p + 2)) (acc ++ [34]) R := by
  unfold ReadI at h ⊢
  rw [drop_at (by omega : p < s.size), drop_at hp, hc, hd, rdQ_two] at h
  rw [← h, Option.map_map]
  congr 1
  funext x
  simp
theorem qI_end {s : ByteArray} {p : Nat} {acc : List UInt8} {R : Option (List UInt8 × List UInt8)} (hp : p < s.size) (hc : s[p] = 34) (hd : ∀ h : p + 1 < s.size, ¬ s[p + 1] = 34) (h : ReadI rdQ (s.data.toList.drop p) acc R) : R = some (acc, s.data.toList.drop (p + 1)) := by
  unfold ReadI at h
  rw [drop_at hp, hc, rdQ_end] at h
  · rw [← h]; simp
  · by_cases h1 : p + 1 < s.size
    · rw [drop_at h1]
      intro e
      exact hd h1 (by simpa using e)
    · rw [drop_none (by omega)]
      simp
theorem uI_end {s : ByteArray} {p : Nat} {acc : List UInt8} {R : Option (List UInt8 × List UInt8)} (hp : s.size ≤ p) (h : ReadI rdU (s.data.toList.drop p) acc R) : R = some (acc, s.data.toList.drop p) := by
  unfold ReadI at h
  rw [drop_none hp] at h ⊢
  rw [← h]
  simp [rdU]
theorem uI_stop {s : ByteArray} {p : Nat} {acc : List UInt8} {R : Option (List UInt8 × List UInt8)} (hp : p < s.size) (hc : s[p] = 44 ∨ s[p] = 10 ∨ s[p] = 13) (h : ReadI rdU (s.data.toList.drop p) acc R) : R = some (acc, s.data.toList.drop p) := by
  unfold ReadI at h
  rw [drop_at hp, rdU, if_pos hc, ← drop_at hp] at h
  rw [← h]
  simp
theorem uI_bad {s : ByteArray} {p : Nat} {acc : List UInt8} {R : Option (List UInt8 × List UInt8)} (hp : p < s.size) (hc : s[p] = 34) (h : ReadI rdU (s.data.toList.drop p) acc R) : R = none := by
  unfold ReadI at h
  rw [drop_at hp, rdU, if_neg (by rw [hc]; decide), if_pos hc] at h
  exact h.symm
theorem uI_step {s : ByteArray} {p : Nat} {acc : List UInt8} {R : Option (List UInt8 × List UInt8)} (hp : p < s.size) (hc : ¬ (s[p] = 44 ∨ s[p] = 10 ∨ s[p] = 13)) (h34 : ¬ s[p] = 34) (h : ReadI rdU (s.data.toList.drop p) acc R) : ReadI rdU (s.data.toList.drop (p + 1)) (acc ++ [s[p]]) R := by
  unfold ReadI at h ⊢
  rw [drop_at hp, rdU, if_neg hc, if_neg h34] at h
  rw [← h, Option.map_map]
  congr 1
  funext x
  simp

/-- What reading a field ends in: the field, and the place behind it; or no field. -/
def FieldPost (l : List UInt8) (R : Option (List UInt8 × List UInt8)) (e : Ending) : Prop :=
  (∃ (f : List UInt8) (p : Nat), R = some (f, l.drop p) ∧ p ≤ l.length ∧ e = .returned (.tuple #[.string ⟨f.toArray⟩, .int .i64 p, .bool true])) ∨
  (R = none ∧ ∃ k : Int, e = .returned (.tuple #[.string ⟨#[]⟩, .int .i64 k, .bool false]))
theorem fieldPost_yes {s : ByteArray} {R : Option (List UInt8 × List UInt8)} {f : List UInt8} {p : Nat} {z : Int} (hz : z = p) (hp : p ≤ s.size) (h : R = some (f, s.data.toList.drop p)) : FieldPost s.data.toList R (.returned (.tuple #[.string ⟨f.toArray⟩, .int .i64 z, .bool true])) := by
  subst hz
  exact Or.inl ⟨f, p, h, by rw [← Lib.size_eq]; exact hp, rfl⟩
theorem fieldPost_no {l : List UInt8} {R : Option (List UInt8 × List UInt8)} {z : Int} (h : R = none) : FieldPost l R (.returned (.tuple #[.string ⟨#[]⟩, .int .i64 z, .bool false])) := Or.inr ⟨h, z, rfl⟩

end Go.Proofs.Ytgknkjiifcnkpaa
namespace Go.Proofs.Ytgknkjiifcnkpaa
open Go.RowKit

theorem any_snoc (l : List UInt8) (c : UInt8) : (l ++ [c]).any spB = (l.any spB || spB c) := by simp
theorem dblL_one (c : UInt8) : dblL [c] = if c = 34 then [34, 34] else [c] := by
  rw [dblL]
  split <;> rfl
/-- A quoted field's text so far. -/
def quoS (l : List UInt8) : List UInt8 := 34 :: dblL l
theorem quoS_len (l : List UInt8) : (quoS l).length ≤ 2 * l.length + 1 := by
  have := dblL_len l
  simp only [quoS, List.length_cons]
  omega
theorem quoS_two (l : List UInt8) : quoS (l ++ [34]) = quoS l ++ [34] ++ [34] := by simp [quoS, dblL_append, dblL_one]
theorem quoS_one (l : List UInt8) {c : UInt8} (h : ¬ c = 34) : quoS (l ++ [c]) = quoS l ++ [c] := by simp [quoS, dblL_append, dblL_one, h]
theorem csvF_yes {l : List UInt8} (h : l.any spB = true) : csvF l = quoS l ++ [34] := by rw [csvF, if_pos h]; rfl
theorem ret_bytes {s : ByteArray} {l : List UInt8} (h : l = s.data.toList) : Ending.returned (.string s) = .returned (.string ⟨l.toArray⟩) := by rw [h, mk_toList]
theorem csvF_no {l : List UInt8} (h : l.any spB = false) : csvF l = l := by rw [csvF, if_neg (by simp [h])]

theorem rowT_take_succ {r : List (List UInt8)} {q : Nat} {p : List UInt8} (h : r[q]? = some p) : rowT (r.take (q + 1)) = if q = 0 then csvF p else rowT (r.take q) ++ 44 :: csvF p := by
  have hq := (List.getElem?_eq_some_iff.1 h).1
  rw [List.take_add_one, h]
  show rowT (r.take q ++ [p]) = _
  rw [rowT_snoc]
  by_cases h0 : q = 0
  · subst h0
    simp
  · rw [if_neg h0, if_neg (by
      intro e
      have := congrArg List.length e
      rw [List.length_take] at this
      have hz : ([] : List (List UInt8)).length = 0 := rfl
      omega)]
theorem rowT_take_le (r : List (List UInt8)) (q : Nat) : (rowT (r.take q)).length ≤ (rowT r).length := by
  by_cases hq : q < r.length
  · have h : r[q]? = some r[q] := List.getElem?_eq_getElem hq
    have ih := rowT_take_le r (q + 1)
    rw [rowT_take_succ h] at ih
    split at ih
    · rename_i h0
      subst h0
      simp [rowT]
    · simp only [List.length_append] at ih
      omega
  · rw [List.take_of_length_le (by omega)]
    exact Nat.le_refl _
termination_by r.length - q
theorem csvT_take_succ {L : List (List (List UInt8))} {j : Nat} {r : List (List UInt8)} (h : L[j]? = some r) : csvT (L.take (j + 1)) = csvT (L.take j) ++ rowT r ++ [10] := by
  rw [List.take_add_one, h]
  show csvT (L.take j ++ [r]) = _
  rw [csvT_snoc, List.append_assoc]
theorem csvT_take_le (L : List (List (List UInt8))) (j : Nat) : (csvT (L.take j)).length ≤ (csvT L).length := by
  have e : csvT L = csvT (L.take j) ++ csvT (L.drop j) := by rw [← csvT_append, List.take_append_drop]
  rw [e, List.length_append]
  omega
theorem csvT_part {L : List (List (List UInt8))} {j : Nat} {r : List (List UInt8)} (h : L[j]? = some r) (q : Nat) : (csvT (L.take j) ++ rowT (r.take q)).length + 1 ≤ (csvT L).length := by
  have h1 := csvT_take_le L (j + 1)
  rw [csvT_take_succ h] at h1
  have h2 := rowT_take_le r q
  simp only [List.length_append, List.length_cons, List.length_nil] at h1 ⊢
  omega
theorem toArr_size (p : List UInt8) : (⟨p.toArray⟩ : ByteArray).size = p.length := by simp [ByteArray.size]
theorem strRow_form {w : World} {u : Value} {r : List (List UInt8)} (h : StrRow w u r) : ∃ a c, u = .slice a r.length c ∧ r.length ≤ 9223372036854775807 ∧ (∀ (q : Nat) p, r[q]? = some p → ∃ b off, a = some ⟨b, off, none⟩ ∧ w.cell? ⟨b, off + q, none⟩ = some (.string ⟨p.toArray⟩)) := by
  rcases h with ⟨rfl, a, c, rfl⟩ | ⟨b, off, c, rfl, hl, _, hc⟩
  · exact ⟨a, c, rfl, by simp, by simp⟩
  · exact ⟨_, c, rfl, hl, fun q p hp => ⟨b, off, rfl, hc q p hp⟩⟩

end Go.Proofs.Ytgknkjiifcnkpaa
namespace Go.Proofs.Ytgknkjiifcnkpaa
open Go.RowKit

/-- What the size of a list of rows counts. -/
def szL (L : List (List (List UInt8))) : Nat := (L.map fun r => r.length + lensum r).sum
theorem szL_take_succ {L : List (List (List UInt8))} {k : Nat} {p : List (List UInt8)} (h : L[k]? = some p) : szL (L.take (k + 1)) = szL (L.take k) + (p.length + lensum p) := by
  unfold szL
  rw [List.take_add_one, h, List.map_append, List.sum_append]
  simp
theorem szL_take_le (L : List (List (List UInt8))) (k : Nat) : szL (L.take k) ≤ szL L := by
  have e : szL L = szL (L.take k) + szL (L.drop k) := by
    unfold szL
    rw [← List.sum_append, ← List.map_append, List.take_append_drop]
  omega
theorem szL_mem {L : List (List (List UInt8))} {r : List (List UInt8)} (h : r ∈ L) : r.length + lensum r ≤ szL L := by
  induction L with
  | nil => cases h
  | cons a t ih =>
    have e : szL (a :: t) = (a.length + lensum a) + szL t := by simp [szL]
    rcases List.mem_cons.1 h with rfl | h
    · omega
    · have := ih h
      omega

theorem szStr_fits (w : World) (v : Value) (left : Nat) (ps : List (List UInt8)) (h : StrRow w v ps) (hleft : left ≤ 1048576) (hsz : ∀ p ∈ ps, p.length ≤ 9223372036854775807) (hf : ps.length + lensum ps ≤ left) :
    Calls Try.prog 66 #[v, .int .i64 left] w fun e w' => e = .returned (.int .i64 ((left - (ps.length + lensum ps) : Nat) : Int)) ∧ w = w' :=
  (szStr w v left ps h hleft hsz).mono fun e w' ⟨he, hw⟩ => ⟨by
    rcases he with ⟨_, he⟩ | ⟨hlt, _⟩
    · rw [he]
      exact ret_int (by omega)
    · omega, hw⟩
theorem szStr_not (w : World) (v : Value) (left : Nat) (ps : List (List UInt8)) (h : StrRow w v ps) (hleft : left ≤ 1048576) (hsz : ∀ p ∈ ps, p.length ≤ 9223372036854775807) (hf : left < ps.length + lensum ps) :
    Calls Try.prog 66 #[v, .int .i64 left] w fun e w' => e = .returned (.int .i64 (-1)) ∧ w = w' :=
  (szStr w v left ps h hleft hsz).mono fun e w' ⟨he, hw⟩ => ⟨by
    rcases he with ⟨hle, _⟩ | ⟨_, he⟩
    · omega
    · exact he, hw⟩

/-- The first j rows are copied. -/
def SSFilled (w : World) (base : Nat) (v : Value) (n : Nat) (L : List (List (List UInt8))) (j : Nat) : Prop :=
  ∃ vs : List Value, w.ownsRow base 31 1 v n vs ∧ RowsOwn w base 9 (vs.take j) ((L.take j).map strCells)
theorem SSFilled.done {w : World} {base : Nat} {v : Value} {L : List (List (List UInt8))} (h : SSFilled w base v L.length L L.length) : SSOwn w base v L := by
  obtain ⟨vs, ho, hr⟩ := h
  have hlen := ho.1
  rw [List.take_of_length_le (by omega), List.take_of_length_le (Nat.le_refl _)] at hr
  exact ⟨vs, ho, hr⟩
theorem SSFilled.cell {w : World} {base g cap : Nat} {n j : Nat} {L : List (List (List UInt8))} (h : SSFilled w base (.slice (some ⟨g, 0, none⟩) n cap) n L j) {i : Nat} (hi : i < n) : (∃ x, w.cell? ⟨g, i, none⟩ = some x) ∧ w.frozen? ⟨g, i, none⟩ = false := by
  obtain ⟨xs, ho, hx⟩ := h
  have hxl := ho.1
  refine ⟨⟨xs[i]'(by omega), ?_⟩, ho.frozenAt i⟩
  rw [ho.cellAt i (by omega), List.getElem?_eq_getElem (by omega)]
theorem SSFilled.below {w w' : World} {base n j : Nat} {v : Value} {L : List (List (List UInt8))} (h : SSFilled w base v n L j) (hB : Below w.heap.size w w') : SSFilled w' base v n L j := by
  obtain ⟨vs, ho, hr⟩ := h
  exact ⟨vs, ho.kept (grown_of_below hB none) (by cases hv : v.ownBlock <;> simp), hr.below hB⟩
theorem SSFilled.step {wr w : World} {base g cap : Nat} {n j : Nat} {L : List (List (List UInt8))} {p : List (List UInt8)} {u : Value} (h : SSFilled wr base (.slice (some ⟨g, 0, none⟩) n cap) n L j) (hB : Below wr.heap.size wr w) (hj : j < n) (hp : L[j]? = some p)
    (hu : w.ownsRow wr.heap.size 9 1 u p.length (strCells p)) (hlo : base ≤ wr.heap.size) :
    SSFilled (w.setCell ⟨g, j, none⟩ u) base (.slice (some ⟨g, 0, none⟩) n cap) n L (j + 1) := by
  obtain ⟨vs, ho0, hr0⟩ := h
  have ho := ho0.kept (grown_of_below hB none) (Or.inr (by simp [Value.ownBlock]))
  have hr := hr0.below hB
  have hs := ho.stored j u
  have hxl := ho.1
  have hT : 9 ≠ 31 := by decide
  have hr2 := hr.outer ho hT hs.2
  have hu2 : (w.setCell ⟨g, j, none⟩ u).ownsRow base 9 1 u (strCells p).length (strCells p) := by
    rw [strCells_len]
    refine World.ownsRow.mono (hu.kept hs.2 ?_) hlo
    cases hb : u.ownBlock with
    | none => exact Or.inl rfl
    | some b => exact Or.inr (fun e => owns_apart hu ho hT b hb e.symm)
  refine ⟨_, hs.1, ?_⟩
  have e1 : (vs.set j u).take (j + 1) = vs.take j ++ [u] := by
    have hjv : j < vs.length := by omega
    rw [List.take_add_one, List.getElem?_set_self hjv, List.take_set_of_le (Nat.le_refl _)]
    rfl
  have e2 : (L.take (j + 1)).map strCells = (L.take j).map strCells ++ [strCells p] := by
    rw [List.take_add_one, hp, List.map_append]
    rfl
  rw [e1, e2]
  exact hr2.snoc (lo := wr.heap.size) hu2 (fun i x b hx hb => (hr0.lt hx hb).2) (fun b hb => (hu.lt b hb).1)

theorem owns_slice {w : World} {base s n : Nat} {T : TypeId} {v : Value} {xs : List Value} (h : w.ownsRow base T s v n xs) : ∃ a m c, v = .slice a m c := by
  rcases h.2 with ⟨rfl, _⟩ | ⟨g, cap, cur, rfl, _⟩
  · exact ⟨_, _, _, rfl⟩
  · exact ⟨_, _, _, rfl⟩

theorem toStrP (w : World) (v : Value) (ps : List (List UInt8)) (h : StrRow w v ps) (hl : ps.length ≤ 1048576) :
    Calls Try.prog 69 #[v] w fun e w' => ∃ u, e = .returned u ∧ w'.ownsRow w.heap.size 9 1 u ps.length (strCells ps) ∧ Below w.heap.size w w' := toStr w v ps h hl

end Go.Proofs.Ytgknkjiifcnkpaa
namespace Go.Proofs.Ytgknkjiifcnkpaa
open Go.RowKit

theorem results_tmp_cell {fn : Func} {t p : Tmp} {ty : TypeId} (h : fn.results = #[.tmp t, .cell p ty]) (tmps : Array Value) (P : Program) (w : World) :
    (results fn tmps).run P w =
      ((asAddr (tmps.getD p undef)).run P w).andThen fun a w₁ => ((loadVar ty a).run P w₁).andThen fun v w₂ => .ok (.tuple #[tmps.getD t undef, v]) w₂ := by
  simp only [results, h]
  simp [Sem.run_bind, Result.andThen]

/-- A row being read: it is whole, or it goes on. -/
def RowI (l : List UInt8) : Bool → Nat → List (List UInt8) → ((List (List UInt8) × List UInt8) ⊕ Nat) → Prop
  | true, p, row, R => R = .inl (row, l.drop p)
  | false, p, row, R => ∃ n, (l.drop p).length < n ∧ rdRow n (l.drop p) row = R
theorem rowI_start (l : List UInt8) (p : Nat) : RowI l false p [] (rdRow ((l.drop p).length + 1) (l.drop p) []) := ⟨_, Nat.lt_succ_self _, rfl⟩
theorem rowI_bad {l : List UInt8} {p : Nat} {row : List (List UInt8)} {R : (List (List UInt8) × List UInt8) ⊕ Nat} (h : RowI l false p row R) (hf : rdF (l.drop p) = none) : R = .inr row.length := by
  obtain ⟨n, hn, h⟩ := h
  obtain ⟨m, rfl⟩ : ∃ m, n = m + 1 := ⟨n - 1, by omega⟩
  rw [rdRow, hf] at h
  exact h.symm
theorem rowI_eof {s : ByteArray} {p q : Nat} {row : List (List UInt8)} {f : List UInt8} {R : (List (List UInt8) × List UInt8) ⊕ Nat} (h : RowI s.data.toList false p row R) (hf : rdF (s.data.toList.drop p) = some (f, s.data.toList.drop q)) (hq : s.size ≤ q) : RowI s.data.toList true q (row ++ [f]) R := by
  obtain ⟨n, hn, h⟩ := h
  obtain ⟨m, rfl⟩ : ∃ m, n = m + 1 := ⟨n - 1, by omega⟩
  rw [rdRow, hf, drop_none hq] at h
  rw [RowI, drop_none hq]
  exact h.symm
theorem rowI_comma {s : ByteArray} {p q : Nat} {row : List (List UInt8)} {f : List UInt8} {R : (List (List UInt8) × List UInt8) ⊕ Nat} (h : RowI s.data.toList false p row R) (hf : rdF (s.data.toList.drop p) = some (f, s.data.toList.drop q)) (hq : q < s.size) (hc : s[q] = 44) : RowI s.data.toList false (q + 1) (row ++ [f]) R := by
  obtain ⟨n, hn, h⟩ := h
  obtain ⟨m, rfl⟩ : ∃ m, n = m + 1 := ⟨n - 1, by omega⟩
  have hl := rdF_len hf
  have hd := congrArg List.length (drop_at hq)
  rw [rdRow, hf, drop_at hq, hc] at h
  simp only [if_true] at h
  simp only [List.length_cons] at hd
  exact ⟨m, by omega, h⟩
theorem rowI_nl {s : ByteArray} {p q : Nat} {row : List (List UInt8)} {f : List UInt8} {R : (List (List UInt8) × List UInt8) ⊕ Nat} (h : RowI s.data.toList false p row R) (hf : rdF (s.data.toList.drop p) = some (f, s.data.toList.drop q)) (hq : q < s.size) (hc : s[q] = 10) : RowI s.data.toList true (q + 1) (row ++ [f]) R := by
  obtain ⟨n, hn, h⟩ := h
  obtain ⟨m, rfl⟩ : ∃ m, n = m + 1 := ⟨n - 1, by omega⟩
  rw [rdRow, hf, drop_at hq, hc] at h
  exact h.symm
theorem rowI_crlf {s : ByteArray} {p q : Nat} {row : List (List UInt8)} {f : List UInt8} {R : (List (List UInt8) × List UInt8) ⊕ Nat} (h : RowI s.data.toList false p row R) (hf : rdF (s.data.toList.drop p) = some (f, s.data.toList.drop q)) (hq : q + 1 < s.size) (hc : s[q] = 13) (hd : s[q + 1] = 10) : RowI s.data.toList true (q + 2) (row ++ [f]) R := by
  obtain ⟨n, hn, h⟩ := h
  obtain ⟨m, rfl⟩ : ∃ m, n = m + 1 := ⟨n - 1, by omega⟩
  rw [rdRow, hf, drop_at (by omega : q < s.size), drop_at hq, hc, hd] at h
  exact h.symm
theorem rowI_not {s : ByteArray} {p q : Nat} {row : List (List UInt8)} {f : List UInt8} {R : (List (List UInt8) × List UInt8) ⊕ Nat} (h : RowI s.data.toList false p row R) (hf : rdF (s.data.toList.drop p) = some (f, s.data.toList.drop q)) (hq : q < s.size) (h44 : ¬ s[q] = 44) (h10 : ¬ s[q] = 10) (h13 : ∀ (_ : s[q] = 13) (hq1 : q + 1 < s.size), ¬ s[q + 1] = 10) : R = .inr row.length := by
  obtain ⟨n, hn, h⟩ := h
  obtain ⟨m, rfl⟩ : ∃ m, n = m + 1 := ⟨n - 1, by omega⟩
  rw [rdRow, hf, drop_at hq] at h
  simp only at h
  rw [if_neg h44, if_neg h10, if_neg] at h
  · exact h.symm
  · rintro ⟨h1, h2⟩
    by_cases hq1 : q + 1 < s.size
    · rw [drop_at hq1] at h2
      exact h13 h1 hq1 (by simpa using h2)
    · rw [drop_none (by omega)] at h2
      cases h2

/-- The rows that are read. -/
def AllI (l : List UInt8) (p : Nat) (rows : List (List (List UInt8))) (R : List (List (List UInt8)) ⊕ (Nat × Nat)) : Prop := ∃ n, (l.drop p).length < n ∧ rdAll n (l.drop p) rows = R
theorem allI_start (l : List UInt8) : AllI l 0 [] (rdCsv l) := ⟨l.length + 1, by simp, rfl⟩
theorem allI_end {s : ByteArray} {p : Nat} {rows : List (List (List UInt8))} {R : List (List (List UInt8)) ⊕ (Nat × Nat)} (h : AllI s.data.toList p rows R) (hp : s.size ≤ p) : R = .inl rows := by
  obtain ⟨n, hn, h⟩ := h
  obtain ⟨m, rfl⟩ : ∃ m, n = m + 1 := ⟨n - 1, by omega⟩
  rw [drop_none hp, rdAll] at h
  exact h.symm
theorem allI_bad {s : ByteArray} {p k : Nat} {rows : List (List (List UInt8))} {R : List (List (List UInt8)) ⊕ (Nat × Nat)} (h : AllI s.data.toList p rows R) (hp : p < s.size) (hR : rdRow ((s.data.toList.drop p).length + 1) (s.data.toList.drop p) [] = .inr k) : R = .inr (rows.length, k) := by
  obtain ⟨n, hn, h⟩ := h
  obtain ⟨m, rfl⟩ : ∃ m, n = m + 1 := ⟨n - 1, by omega⟩
  rw [drop_at hp] at h hR
  rw [rdAll, show (s.data.toList.drop (p + 1)).length + 2 = (s[p] :: s.data.toList.drop (p + 1)).length + 1 from rfl, hR] at h
  exact h.symm
theorem allI_row {s : ByteArray} {p q : Nat} {rows : List (List (List UInt8))} {row : List (List UInt8)} {R : List (List (List UInt8)) ⊕ (Nat × Nat)} (h : AllI s.data.toList p rows R) (hp : p < s.size) (hR : rdRow ((s.data.toList.drop p).length + 1) (s.data.toList.drop p) [] = .inl (row, s.data.toList.drop q)) : AllI s.data.toList q (rows ++ [row]) R ∧ p < q := by
  obtain ⟨n, hn, h⟩ := h
  obtain ⟨m, rfl⟩ : ∃ m, n = m + 1 := ⟨n - 1, by omega⟩
  have hw := (rdRow_w _ _ _ _ _ hR).2.2 (by rw [drop_at hp]; simp)
  rw [drop_at hp] at h hR
  rw [rdAll, show (s.data.toList.drop (p + 1)).length + 2 = (s[p] :: s.data.toList.drop (p + 1)).length + 1 from rfl, hR] at h
  refine ⟨⟨m, by omega, h⟩, ?_⟩
  rw [List.length_drop, List.length_drop] at hw
  omega

/-- What reading answers: the rows, and the fault's three numbers. -/
def csvQ (l : List UInt8) : List (List (List UInt8)) × Nat × Nat × Nat :=
  if 4000 < l.length then ([], 1, 0, 0) else
  match rdCsv l with
  | .inl rows => (rows, 0, 0, 0)
  | .inr (a, b) => ([], 2, a, b)
theorem csvQ_long {l : List UInt8} (h : 4000 < l.length) : csvQ l = ([], 1, 0, 0) := by rw [csvQ, if_pos h]
theorem csvQ_ok {l : List UInt8} {rows : List (List (List UInt8))} (h : ¬ 4000 < l.length) (hr : rdCsv l = .inl rows) : csvQ l = (rows, 0, 0, 0) := by rw [csvQ, if_neg h, hr]
theorem csvQ_bad {l : List UInt8} {a b : Nat} (h : ¬ 4000 < l.length) (hr : rdCsv l = .inr (a, b)) : csvQ l = ([], 2, a, b) := by rw [csvQ, if_neg h, hr]
/-- A fault's value. -/
def faV (c a b : Nat) : Value := .agg #[.int .i64 c, .int .i64 a, .int .i64 b]
/-- What reading ends in. -/
def CsvPost (w : World) (l : List UInt8) (e : Ending) (w' : World) : Prop :=
  ∃ v, e = .returned (.tuple #[v, faV (csvQ l).2.1 (csvQ l).2.2.1 (csvQ l).2.2.2]) ∧ SSOwn w' w.heap.size v (csvQ l).1
theorem csvPost_of {w w' : World} {l : List UInt8} {v : Value} {rows : List (List (List UInt8))} {c a b : Nat} {z1 z2 z3 : Int} (h : csvQ l = (rows, c, a, b)) (h1 : z1 = c) (h2 : z2 = a) (h3 : z3 = b) (ho : SSOwn w' w.heap.size v rows) : CsvPost w l (.returned (.tuple #[v, .agg #[.int .i64 z1, .int .i64 z2, .int .i64 z3]])) w' := by
  subst h1
  subst h2
  subst h3
  refine ⟨v, by rw [h]; rfl, by rw [h]; exact ho⟩

/-- The world while the rows are read. -/
structure OutSt (w wr : World) (vo : Value) (rows : List (List (List UInt8))) : Prop where
  below : Below w.heap.size w wr
  cell : wr.heap[w.heap.size]? = some (.cells #[.int .i64 0, .int .i64 0, .int .i64 0] 96 (0, 0))
  out : SSOwn wr w.heap.size vo rows
structure CsvSt (w wr : World) (lo : Nat) (vo vr : Value) (rows : List (List (List UInt8))) (row : List (List UInt8)) : Prop where
  below : Below w.heap.size w wr
  cell : wr.heap[w.heap.size]? = some (.cells #[.int .i64 0, .int .i64 0, .int .i64 0] 96 (0, 0))
  out : ∃ vs, wr.ownsRow w.heap.size 31 1 vo rows.length vs ∧ RowsOwn wr w.heap.size 9 vs (rows.map strCells) ∧ ∀ (j : Nat) x g, vs[j]? = some x → x.ownBlock = some g → g < lo
  row : wr.ownsRow lo 9 1 vr row.length (strCells row)
  le : w.heap.size ≤ lo
  hi : lo ≤ wr.heap.size
theorem CsvSt.next {w wr w' : World} {lo : Nat} {vo vr : Value} {rows : List (List (List UInt8))} {row : List (List UInt8)} (h : CsvSt w wr lo vo vr rows row) (hB : Below wr.heap.size wr w') : CsvSt w w' lo vo vr rows row := by
  obtain ⟨vs, ho, hr, hlt⟩ := h.out
  exact ⟨h.below.trans (hB.mono h.below.size), (hB.block _ (blk_lt h.cell)).trans h.cell, ⟨vs, ho.kept (grown_of_below hB none) (by cases hv : vo.ownBlock <;> simp), hr.below hB, hlt⟩, h.row.kept (grown_of_below hB none) (by cases hv : vr.ownBlock <;> simp), h.le, Nat.le_trans h.hi hB.size⟩
theorem OutSt.start {w wr : World} {vo : Value} {rows : List (List (List UInt8))} (h : OutSt w wr vo rows) : CsvSt w (wr.alloc (.cells #[] 9)) wr.heap.size vo (.slice (some ⟨wr.heap.size, 0, none⟩) 0 0) rows [] := by
  obtain ⟨vs, ho, hr⟩ := h.out
  have hB : Below wr.heap.size wr (wr.alloc (.cells #[] 9)) := (Below.refl _ _).alloc (Nat.le_refl _) _
  exact ⟨h.below.trans (hB.mono h.below.size), (hB.block _ (blk_lt h.cell)).trans h.cell, ⟨vs, ho.kept (grown_of_below hB none) (by cases hv : vo.ownBlock <;> simp), hr.below hB, fun j x g hx hg => (hr.lt hx hg).2⟩, World.ownsRow_made wr #[] 0 (Nat.le_refl _) (by unfold maxLen; omega) (by simp), h.below.size, hB.size⟩
theorem cell_apart {w : World} {b base s n : Nat} {T T' : TypeId} {v : Value} {xs : List Value} {cs : Array Value} (hc : w.heap[b]? = some (.cells cs T' (0, 0))) (ho : w.ownsRow base T s v n xs) (hT : T ≠ T') : v.ownBlock ≠ some b := by
  intro e
  rcases ho.2 with ⟨rfl, _⟩ | ⟨g, cap, cur, rfl, _, hg, _⟩
  · cases e
  · simp only [Value.ownBlock, Option.some.injEq] at e
    subst e
    rw [hc] at hg
    injection hg with hg
    injection hg with _ hg
    exact hT hg.symm
theorem CsvSt.app {w wr w' : World} {lo : Nat} {vo vr vr' : Value} {rows : List (List (List UInt8))} {row : List (List UInt8)} {f : List UInt8} (h : CsvSt w wr lo vo vr rows row) (hg : wr.grownBy w' vr.ownBlock) (ho' : w'.ownsRow lo 9 1 vr' (row.length + 1) (strCells row ++ [.string ⟨f.toArray⟩])) : CsvSt w w' lo vo vr' rows (row ++ [f]) := by
  obtain ⟨vs, ho, hr, hlt⟩ := h.out
  have hT : 9 ≠ 31 := by decide
  have hT2 : 9 ≠ 96 := by decide
  refine ⟨h.below.grown hg h.below.size (fun k hk => Nat.le_trans h.le (h.row.lt k hk).1), ?_, ⟨vs, ho.kept hg ?_, hr.kept hg (fun j u g hu hb e => ?_), hlt⟩, ?_, h.le, Nat.le_trans h.hi hg.size⟩
  · rw [hg.block _ (blk_lt h.cell) (fun e => cell_apart h.cell h.row hT2 e.symm)]
    exact h.cell
  · cases hb : vo.ownBlock with
    | none => exact Or.inl rfl
    | some b => exact Or.inr (fun e => owns_apart h.row ho hT b e.symm hb)
  · have := hlt j u g hu hb
    have := (h.row.lt g e).1
    omega
  · have e : (row ++ [f]).length = row.length + 1 := by simp
    rw [e, show strCells (row ++ [f]) = strCells row ++ [.string ⟨f.toArray⟩] by simp [strCells]]
    exact ho'
theorem CsvSt.push {w wr w' : World} {lo : Nat} {vo vr vo' : Value} {rows : List (List (List UInt8))} {row : List (List UInt8)} {vs : List Value} (h : CsvSt w wr lo vo vr rows row) (ho : wr.ownsRow w.heap.size 31 1 vo rows.length vs) (hr : RowsOwn wr w.heap.size 9 vs (rows.map strCells)) (hlt : ∀ (j : Nat) x g, vs[j]? = some x → x.ownBlock = some g → g < lo)
    (hg : wr.grownBy w' vo.ownBlock) (ho' : w'.ownsRow w.heap.size 31 1 vo' (rows.length + 1) (vs ++ [vr])) : OutSt w w' vo' (rows ++ [row]) := by
  have hT : 9 ≠ 31 := by decide
  have hT2 : 31 ≠ 96 := by decide
  have hu : w'.ownsRow w.heap.size 9 1 vr (strCells row).length (strCells row) := by
    rw [strCells_len]
    refine World.ownsRow.mono (h.row.kept hg ?_) h.le
    cases hb : vr.ownBlock with
    | none => exact Or.inl rfl
    | some b => exact Or.inr (fun e => owns_apart h.row ho hT b hb e.symm)
  refine ⟨h.below.grown hg h.below.size (fun k hk => (ho.lt k hk).1), ?_, vs ++ [vr], ?_, ?_⟩
  · rw [hg.block _ (blk_lt h.cell) (fun e => cell_apart h.cell ho hT2 e.symm)]
    exact h.cell
  · rw [show (rows ++ [row]).length = rows.length + 1 by simp]
    exact ho'
  · rw [show (rows ++ [row]).map strCells = rows.map strCells ++ [strCells row] by simp]
    exact (hr.outer ho hT hg).snoc (lo := lo) hu hlt (fun g hg => (h.row.lt g hg).1)
theorem OutSt.set {w wr : World} {vo : Value} {rows : List (List (List UInt8))} (h : OutSt w wr vo rows) (x y z : Value) : SSOwn (((wr.setCell ⟨w.heap.size, 0, none⟩ x).setCell ⟨w.heap.size, 1, none⟩ y).setCell ⟨w.heap.size, 2, none⟩ z) w.heap.size vo rows ∧ Below w.heap.size w (((wr.setCell ⟨w.heap.size, 0, none⟩ x).setCell ⟨w.heap.size, 1, none⟩ y).setCell ⟨w.heap.size, 2, none⟩ z) := by
  obtain ⟨vs, ho, hr⟩ := h.out
  have hT1 : 31 ≠ 96 := by decide
  have hT2 : 9 ≠ 96 := by decide
  have hg := grownBy_trans (grownBy_trans (grownBy_set wr w.heap.size 0 x) (grownBy_set _ w.heap.size 1 y)) (grownBy_set _ w.heap.size 2 z)
  refine ⟨⟨vs, ho.kept hg (Or.inr (cell_apart h.cell ho hT1)), hr.kept hg (fun j u g hu hb e => ?_)⟩, ((h.below.setCell (Nat.le_refl _) _).setCell (Nat.le_refl _) _).setCell (Nat.le_refl _) _⟩
  have hj : j < (rows.map strCells).length := by rw [← hr.1]; exact (List.getElem?_eq_some_iff.1 hu).1
  obtain rfl := Option.some.inj e
  exact cell_apart h.cell (hr.2.1 j u _ hu (List.getElem?_eq_getElem hj)) hT2 hb
theorem owns_form {w : World} {base s n : Nat} {T : TypeId} {v : Value} {xs : List Value} (h : w.ownsRow base T s v n xs) : ∃ a c, v = .slice a n c := by
  rcases h.2 with ⟨rfl, rfl⟩ | ⟨g, cap, cur, rfl, _⟩
  · exact ⟨_, _, rfl⟩
  · exact ⟨_, _, rfl⟩
theorem outSt_form {w wr : World} {vo : Value} {rows : List (List (List UInt8))} (h : OutSt w wr vo rows) : ∃ a c, vo = .slice a rows.length c := by
  obtain ⟨vs, ho, _⟩ := h.out
  exact owns_form ho
theorem blk_old {w w2 : World} {b : Nat} {o : Obj} (hB : Below w.heap.size w w2) (hb : b < w.heap.size) (h : w.heap[b]? = some o) : w2.heap[b]? = some o := (hB.block b hb).trans h
theorem bad_out {w W : World} {lo : Nat} {vo vr : Value} {rows : List (List (List UInt8))} {row : List (List UInt8)} (h : CsvSt w W lo vo vr rows row) (x y z : Value) :
    SSOwn ((((W.setCell ⟨w.heap.size, 0, none⟩ x).setCell ⟨w.heap.size, 1, none⟩ y).setCell ⟨w.heap.size, 2, none⟩ z).alloc (.cells #[] 31)).drew w.heap.size (.slice (some ⟨W.heap.size, 0, none⟩) 0 0) [] ∧
    Below w.heap.size w ((((W.setCell ⟨w.heap.size, 0, none⟩ x).setCell ⟨w.heap.size, 1, none⟩ y).setCell ⟨w.heap.size, 2, none⟩ z).alloc (.cells #[] 31)).drew := by
  have hs := h.below.size
  have h1 := World.ownsRow_made (base := w.heap.size) (e := 31) (size := 1) (((W.setCell ⟨w.heap.size, 0, none⟩ x).setCell ⟨w.heap.size, 1, none⟩ y).setCell ⟨w.heap.size, 2, none⟩ z) #[] 0 (by simpa using hs) (by unfold maxLen; omega) (by simp)
  have e : (((W.setCell ⟨w.heap.size, 0, none⟩ x).setCell ⟨w.heap.size, 1, none⟩ y).setCell ⟨w.heap.size, 2, none⟩ z).heap.size = W.heap.size := by simp
  rw [e] at h1
  exact ⟨⟨[], h1.drew, RowsOwn.nil _ _ _⟩, ((((h.below.setCell (Nat.le_refl _) _).setCell (Nat.le_refl _) _).setCell (Nat.le_refl _) _).alloc (by simpa using hs) _).drew⟩
theorem two_out (w : World) (cs : Array Value) : SSOwn ((w.alloc (.cells cs 96)).alloc (.cells #[] 31)) w.heap.size (.slice (some ⟨w.heap.size + 1, 0, none⟩) 0 0) [] ∧ Below w.heap.size w ((w.alloc (.cells cs 96)).alloc (.cells #[] 31)) := by
  have hB : Below w.heap.size w (w.alloc (.cells cs 96)) := (Below.refl _ _).alloc (Nat.le_refl _) _
  refine ⟨⟨[], ?_, RowsOwn.nil _ _ _⟩, hB.alloc hB.size _⟩
  have := World.ownsRow_made (base := w.heap.size) (e := 31) (size := 1) (w.alloc (.cells cs 96)) #[] 0 (by simp) (by unfold maxLen; omega) (by simp)
  simpa using this
theorem outSt_start (w : World) : OutSt w ((w.alloc (.cells #[.int .i64 0, .int .i64 0, .int .i64 0] 96)).alloc (.cells #[] 31)) (.slice (some ⟨w.heap.size + 1, 0, none⟩) 0 0) [] := by
  have hB : Below w.heap.size w (w.alloc (.cells #[.int .i64 0, .int .i64 0, .int .i64 0] 96)) := (Below.refl _ _).alloc (Nat.le_refl _) _
  refine ⟨hB.alloc hB.size _, ?_, [], ?_, RowsOwn.nil _ _ _⟩
  · show ((w.heap.push _).push _)[w.heap.size]? = _
    rw [Array.getElem?_push_lt (by simp)]
    simp
  · have := World.ownsRow_made (base := w.heap.size) (e := 31) (size := 1) (w.alloc (.cells #[.int .i64 0, .int .i64 0, .int .i64 0] 96)) #[] 0 (by simp) (by unfold maxLen; omega) (by simp)
    simpa using this
end Go.Proofs.Ytgknkjiifcnkpaa
namespace Go.Proofs.Ytgknkjiifcnkpaa
open Go.RowKit

/-- Whether two lists of rows are equal. -/
def sameB (a b : List (List (List UInt8))) : Bool := decide (a = b)
theorem sameB_yes {a b : List (List (List UInt8))} (h : a = b) : sameB a b = true := decide_eq_true h
theorem sameB_no {a b : List (List (List UInt8))} (h : ¬ a = b) : sameB a b = false := decide_eq_false h
theorem ret_bool {a b : Bool} (h : b = a) : Ending.returned (.bool a) = .returned (.bool b) := by rw [h]
theorem take_both {α : Type} {a b : List α} {j : Nat} {x y : α} (ha : a[j]? = some x) (hb : b[j]? = some y) (h : a.take j = b.take j) (e : x = y) : a.take (j + 1) = b.take (j + 1) := by
  rw [List.take_add_one, List.take_add_one, ha, hb, h, e]
theorem at_ne {α : Type} {a b : List α} {j : Nat} {x y : α} (ha : a[j]? = some x) (hb : b[j]? = some y) (e : ¬ x = y) : ¬ a = b := by
  intro h
  rw [h, hb] at ha
  exact e (Option.some.inj ha).symm
theorem str_ne {a b : List UInt8} (h : ¬ a = b) : ¬ a.toArray = b.toArray := by
  intro e
  exact h (by simpa using congrArg Array.toList e)

theorem ssRow_form {w : World} {v : Value} {L : List (List (List UInt8))} (h : SSRow w v L) : ∃ a c, v = .slice a L.length c ∧ L.length ≤ 9223372036854775807 ∧ (∀ (j : Nat) row, L[j]? = some row → ∃ b off u, a = some ⟨b, off, none⟩ ∧ w.cell? ⟨b, off + j, none⟩ = some u ∧ StrRow w u row) := by
  rcases h with ⟨rfl, a, c, rfl⟩ | ⟨b, off, c, rfl, hl, _, hc⟩
  · exact ⟨a, c, rfl, by simp, by simp⟩
  · refine ⟨_, c, rfl, hl, fun j row hj => ?_⟩
    obtain ⟨u, h1, h2⟩ := hc j row hj
    exact ⟨b, off, u, rfl, h1, h2⟩
end Go.Proofs.Ytgknkjiifcnkpaa
namespace Go.Proofs.Ytgknkjiifcnkpaa
open Go.RowKit

/-- The marks of rows of these lengths, from k on. -/
def marksL (k : Nat) : List Nat → List (List (List UInt8))
  | [] => []
  | n :: r => marks k n :: marksL (k + n) r
theorem marksL_len : ∀ (ns : List Nat) (k : Nat), (marksL k ns).length = ns.length
  | [], _ => rfl
  | n :: r, k => by rw [marksL, List.length_cons, List.length_cons, marksL_len r]
theorem marksL_at : ∀ (ns : List Nat) (k j n : Nat), ns[j]? = some n → (marksL k ns)[j]? = some (marks (k + (ns.take j).sum) n)
  | [], _, _, _, h => by simp at h
  | m :: r, k, 0, n, h => by
    obtain rfl : m = n := by simpa using h
    simp [marksL]
  | m :: r, k, j + 1, n, h => by
    have ih := marksL_at r (k + m) j n (by simpa using h)
    rw [marksL, List.getElem?_cons_succ, ih]
    congr 2
    simp only [List.take_succ_cons, List.sum_cons]
    omega
theorem marked_cells {w : World} {base : Nat} {T : TypeId} {v : Value} {n k : Nat} (h : Marked w base T v n k n) : w.ownsRow base T 1 v (strCells (marks k n)).length (strCells (marks k n)) := by
  obtain ⟨xs, ho, hx⟩ := h
  have e : xs = strCells (marks k n) := by
    refine List.ext_getElem? fun i => ?_
    by_cases hi : i < n
    · rw [hx i hi, strCells, List.getElem?_map, marks_at hi]; rfl
    · have hxl := ho.1
      rw [List.getElem?_eq_none (by omega), List.getElem?_eq_none (by rw [strCells_len, marks_len]; omega)]
  rw [strCells_len, marks_len, ← e]
  exact ho

theorem sum_take_succ {ns : List Nat} {j m : Nat} (h : ns[j]? = some m) : (ns.take (j + 1)).sum = (ns.take j).sum + m := by
  rw [List.take_add_one, h, List.sum_append]
  simp
theorem sum_take_le (ns : List Nat) (j : Nat) : (ns.take j).sum ≤ ns.sum := by
  have e : ns.sum = (ns.take j).sum + (ns.drop j).sum := by rw [← List.sum_append, List.take_append_drop]
  omega
theorem sum_mem {ns : List Nat} {m : Nat} (h : m ∈ ns) : m ≤ ns.sum := by
  induction ns with
  | nil => cases h
  | cons a t ih =>
    rw [List.sum_cons]
    rcases List.mem_cons.1 h with rfl | h
    · omega
    · have := ih h
      omega
theorem set_self {ns : List Nat} {j m : Nat} (h : ns[j]? = some m) : ns.set j m = ns := by
  refine List.ext_getElem? fun i => ?_
  by_cases e : j = i
  · subst e
    rw [List.getElem?_set_self (List.getElem?_eq_some_iff.1 h).1, h]
  · rw [List.getElem?_set_ne e]

/-- The rows before j are marked. -/
def MarkInv (w : World) (base : Nat) (v : Value) (n : Nat) (vs : List Value) (ns : List Nat) (k j : Nat) : Prop :=
  ∃ C : List (List Value), w.ownsRow base 31 1 v n vs ∧ RowsOwn w base 9 vs C ∧ C.map List.length = ns ∧ (∀ (i m : Nat), i < j → ns[i]? = some m → C[i]? = some (strCells (marks (k + (ns.take i).sum) m)))
theorem MarkInv.row {w : World} {base n k j : Nat} {v : Value} {vs : List Value} {ns : List Nat} (h : MarkInv w base v n vs ns k j) (hn : ns.length = n) (hj : j < n) : ∃ u m c, vs[j]? = some u ∧ ns[j]? = some m ∧ w.ownsRow base 9 1 u m c ∧ c.length = m := by
  obtain ⟨C, ho, hr, hC, _⟩ := h
  have hlen := congrArg List.length hC
  rw [List.length_map, hn] at hlen
  have hvl := hr.1
  have hCj : C[j]? = some C[j] := List.getElem?_eq_getElem (by omega)
  have hvj : vs[j]? = some vs[j] := List.getElem?_eq_getElem (by omega)
  refine ⟨vs[j], C[j].length, C[j], hvj, ?_, hr.2.1 j _ _ hvj hCj, rfl⟩
  rw [← hC, List.getElem?_map, hCj]
  rfl
theorem MarkInv.step {w w' : World} {base n k j m : Nat} {v u : Value} {vs : List Value} {ns : List Nat} (h : MarkInv w base v n vs ns k j) (hn : ns.length = n) (hj : j < n) (hu : vs[j]? = some u) (hm : ns[j]? = some m) (hg : w.grownBy w' u.ownBlock)
    (hM : Marked w' base 9 u m (k + (ns.take j).sum) m) : MarkInv w' base v n vs ns k (j + 1) := by
  obtain ⟨C, ho, hr, hC, hx⟩ := h
  have hlen := congrArg List.length hC
  rw [List.length_map, hn] at hlen
  have hvl := hr.1
  have hCj : C[j]? = some C[j] := List.getElem?_eq_getElem (by omega)
  have hT : 9 ≠ 31 := by decide
  refine ⟨C.set j (strCells (marks (k + (ns.take j).sum) m)), ho.kept hg ?_, hr.put hu hg (marked_cells hM), ?_, fun i q hi hq => ?_⟩
  · cases hb : v.ownBlock with
    | none => exact Or.inl rfl
    | some b => exact Or.inr (fun e => owns_apart (hr.2.1 j u _ hu hCj) ho hT b e.symm hb)
  · rw [List.map_set, hC, strCells_len, marks_len]
    exact set_self hm
  · by_cases e : j = i
    · subst e
      rw [hm] at hq
      obtain rfl := Option.some.inj hq
      rw [List.getElem?_set_self (by omega)]
    · rw [List.getElem?_set_ne e]
      exact hx i q (by omega) hq
theorem MarkInv.done {w : World} {base n k : Nat} {v : Value} {vs : List Value} {ns : List Nat} (h : MarkInv w base v n vs ns k n) (hn : ns.length = n) (hl : n ≤ 140737488355328) (hnl : ∀ m ∈ ns, m ≤ 140737488355328) : SSRow w v (marksL k ns) := by
  obtain ⟨C, ho, hr, hC, hx⟩ := h
  have hlen := marksL_len ns k
  refine ssRow_of (base := base) (vs := vs) (by rw [hlen, hn]; exact ho) (fun j u row hu hj => ?_) (by omega)
  have hjl := (List.getElem?_eq_some_iff.1 hj).1
  rw [hlen] at hjl
  have hm : ns[j]? = some ns[j] := List.getElem?_eq_getElem hjl
  rw [marksL_at ns k j _ hm] at hj
  obtain rfl := Option.some.inj hj
  have := hr.2.1 j u _ hu (hx j _ (by omega) hm)
  rw [strCells_len] at this
  refine strRow_of_owns this ?_
  rw [marks_len]
  have := hnl ns[j] (List.getElem_mem hjl)
  omega

end Go.Proofs.Ytgknkjiifcnkpaa
