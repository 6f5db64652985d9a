/-
  What an argument of a table gives the walks.
  The walks of the exact laws on CSV; the program's contracts are hypotheses.
  What the laws on tables share.
  Rows of texts that are written beside a table's box: what the walk keeps.
  A field's text and what it stands for, the program's way.
  Marking a table: what it leaves alone.
  One rune of a text of rows, and what the reading keeps: mathematics and small facts.
  The text of rows, the program's way.
-/
import Derived.Test.YticeagjonfifbaaGreatDoorTabS
import Derived.Test.YticeagjonfifbaaGreatDoorPk4
import Derived.ChangeSlices
import Derived.ChangeSame
import Derived.Deep.Fields
import Derived.Test.YticeagjonfifbaaGreatDoorPk2
import Derived.Test.YticeagjonfifbaaGreatDoorCsvS
import Derived.Test.YticeagjonfifbaaGreatDoorCsvR
import Derived.Test.YticeagjonfifbaaGreatDoorPk13
import Derived.Test.YticeagjonfifbaaGreatDoorI7A
import Derived.Test.YticeagjonfifbaaGreatDoorPk11
import Derived.Test.YticeagjonfifbaaGreatDoorShB
import Derived.Deep.LoopGhost
namespace Go.Proofs.YticeagjonfifbaaGreatDoor
open Go.ChangeShapes Go.WideShapes Go.ChangeAt Go.RowKit Go.Deep

theorem cellsIntT : Tryz.prog.cellsOf 3 = 1 := by kernel_rfl
theorem cellsSlIT : Tryz.prog.cellsOf 26 = 1 := by kernel_rfl
theorem cellsSlST : Tryz.prog.cellsOf 24 = 1 := by kernel_rfl
theorem cellsStrT : Tryz.prog.cellsOf 9 = 1 := by kernel_rfl
theorem cellsSlIIT : Tryz.prog.cellsOf 25 = 1 := by kernel_rfl
theorem cellsTabT : Tryz.prog.cellsOf 38 = 4 := by kernel_rfl
theorem ints_trod9 {H : Type} {enc : TypeId × Value → H} {W : World} {sp : Nat → Bool} {base fuel : Nat} {held : Bool} {v : Value} {x : DataW H × List MemPlace}
    (h : DataW.trod enc Tryz.prog W base sp held fuel 26 [v] = some x) (hsp : ∀ b, sp b = true) : ∃ zs : List Int, IntRow W v zs := by
  rcases open_ints Tryz.underlying26 Tryz.underlying3 cellsIntT h with ⟨hcs, hx⟩ | ⟨a', len', cap', zs, hcs, _, hl, hm, hz, hx, hcell, hwz⟩
  · obtain rfl : v = .slice none 0 0 := by simpa using hcs
    exact ⟨[], Or.inl ⟨rfl, _, _, rfl⟩⟩
  · obtain rfl : v = .slice (some a') len' cap' := by simpa using hcs
    simp only [hsp, if_true] at hz
    unfold maxLen at hm
    by_cases h0 : len' = 0
    · subst h0
      exact ⟨[], Or.inl ⟨rfl, _, _, rfl⟩⟩
    · obtain ⟨b, off, spot⟩ := a'
      have hspot : spot = none := by simpa [Addr.add] using World.cell?_spot (hcell 0 (by omega))
      subst hspot
      have hlen : (zs.take len').length = len' := by simp; omega
      refine ⟨zs.take len', Or.inr ⟨b, off, cap', by rw [hlen], by omega, by omega, fun j p hj => ?_⟩⟩
      have hjn : j < len' := by
        have := (List.getElem?_eq_some_iff.1 hj).1
        omega
      have hc := hcell j (by omega)
      rw [addr_add] at hc
      rw [hc]
      rw [List.getElem?_take, if_pos hjn, List.getElem?_eq_getElem (by omega)] at hj
      obtain rfl := Option.some.inj hj
      rw [List.getD_eq_getElem?_getD, List.getElem?_eq_getElem (by omega)]
      rfl
theorem grid_trod {H : Type} {enc : TypeId × Value → H} {W : World} {sp : Nat → Bool} {base fuel : Nat} {held : Bool} {v : Value} {x : DataW H × List MemPlace}
    (h : DataW.trod enc Tryz.prog W base sp held fuel 25 [v] = some x) (hsp : ∀ b, sp b = true) : ∃ L : List (List Int), IIRow W v L := by
  rcases Go.Deep.open_slice1 Tryz.underlying25 cellsSlIT h with ⟨hcs, hx⟩ | ⟨a', len', cap', m, n', V, D, Pl, hcs, _, hl, hm, hmm, hx, hcell⟩
  · obtain rfl : v = .slice none 0 0 := by simpa using hcs
    exact ⟨[], Or.inl ⟨rfl, _, _, rfl⟩⟩
  · obtain rfl : v = .slice (some a') len' cap' := by simpa using hcs
    simp only [hsp, if_true] at hmm
    unfold maxLen at hm
    by_cases h0 : len' = 0
    · subst h0
      exact ⟨[], Or.inl ⟨rfl, _, _, rfl⟩⟩
    · obtain ⟨b, off, spot⟩ := a'
      have hspot : spot = none := by simpa [Addr.add] using World.cell?_spot (hcell 0 (by omega)).1
      subst hspot
      obtain ⟨R, hR⟩ := Go.Deep.choose_lt (n := len') (p := fun i (zs : List Int) => IntRow W (V i) zs) (fun i hi => ints_trod9 (hcell i (by omega)).2 hsp)
      have hlen : ((List.range len').map R).length = len' := by simp
      refine ⟨(List.range len').map R, Or.inr ⟨b, off, cap', by rw [hlen], by omega, by omega, fun j row hj => ?_⟩⟩
      have hjn : j < len' := by
        have := (List.getElem?_eq_some_iff.1 hj).1
        omega
      have hc := (hcell j (by omega)).1
      rw [addr_add] at hc
      rw [List.getElem?_map, List.getElem?_range hjn] at hj
      obtain rfl := Option.some.inj hj
      exact ⟨V j, hc, hR j hjn⟩
set_option maxRecDepth 100000 in
theorem tab_read {H : Type} {enc : TypeId × Value → H} {W : World} {sp : Nat → Bool} {r : Reach} {b0 : Nat} {v : Value} {d : DataW H} {p : List MemPlace}
    (hval : Value.okWide Tryz.prog W r b0 38 v) (h : DataW.Trod enc Tryz.prog W 0 sp true 38 v d p) (hsp : ∀ b, sp b = true := by intro _; rfl) :
    ∃ (T : Tab) (u1 u2 u3 : Value), v = .agg #[u1, .string ⟨T.y.toArray⟩, u2, u3] ∧ TabRow W T u1 u2 u3 ∧ (∀ p ∈ T.ns, p.length ≤ 9223372036854775807) ∧ T.y.length ≤ 9223372036854775807 := by
  obtain ⟨cs, rfl, hsz⟩ := okWide_struct Tryz.underlying38 hval
  rw [cellsTabT] at hsz
  obtain ⟨l⟩ := cs
  match l, hsz with
  | [c0, c1, c2, c3], _ =>
    obtain ⟨fuel, hf⟩ := h
    obtain ⟨xs, n, _, _, _, hxl, hat⟩ := DataW.trod_struct Tryz.underlying38 hf
    have hx : ∀ i, i < 4 → ∃ y, xs[i]? = some y := fun i hi => ⟨_, List.getElem?_eq_getElem (by rw [hxl]; exact hi)⟩
    obtain ⟨y0, e0⟩ := hx 0 (by omega)
    obtain ⟨y1, e1⟩ := hx 1 (by omega)
    obtain ⟨y2, e2⟩ := hx 2 (by omega)
    obtain ⟨y3, e3⟩ := hx 3 (by omega)
    have h0 := (hat 0 _ rfl).trans e0
    have h1 := (hat 1 _ rfl).trans e1
    have h2 := (hat 2 _ rfl).trans e2
    have h3 := (hat 3 _ rfl).trans e3
    have h0' : DataW.trod enc Tryz.prog W 0 sp true n 24 [c0] = some y0 := by simpa [Value.cells, cellsSlST] using h0
    have h1' : DataW.trod enc Tryz.prog W 0 sp true n 9 [c1] = some y1 := by simpa [Value.cells, cellsSlST, cellsStrT] using h1
    have h2' : DataW.trod enc Tryz.prog W 0 sp true n 25 [c2] = some y2 := by simpa [Value.cells, cellsSlST, cellsStrT, cellsSlIIT] using h2
    have h3' : DataW.trod enc Tryz.prog W 0 sp true n 26 [c3] = some y3 := by simpa [Value.cells, cellsSlST, cellsStrT, cellsSlIIT, cellsSlIT] using h3
    obtain ⟨ps, hps, hpl⟩ := strs_trod h0' hsp
    obtain ⟨s, k1, _, hs⟩ := DataW.trod_string Tryz.underlying9 h1'
    obtain ⟨L, hL⟩ := grid_trod h2' hsp
    obtain ⟨zs, hz⟩ := ints_trod9 h3' hsp
    simp at k1
    subst k1
    unfold maxLen at hs
    refine ⟨⟨ps, s.data.toList, L, zs⟩, c0, c2, c3, rfl, ⟨hps, hL, hz⟩, hpl, ?_⟩
    have := Lib.size_eq s
    show s.data.toList.length ≤ _
    omega
end Go.Proofs.YticeagjonfifbaaGreatDoor
namespace Go.Proofs.YticeagjonfifbaaGreatDoor
open Go.RowKit

/-- What the program is to answer for a field, for rows, for a text, for two lists. -/
def ImplField (W : World) : Prop := ∀ (s : ByteArray) (w : World), Below W.heap.size W w → s.size ≤ 1048576 → Calls Tryz.prog 79 #[.string s] w fun e w' => e = .returned (.string ⟨(csvF s.data.toList).toArray⟩) ∧ Below w.heap.size w w'
def ImplText (W : World) : Prop := ∀ (w : World) (v : Value) (L : List (List (List UInt8))), Below W.heap.size W w → SSRow w v L → (csvT L).length ≤ 16777216 → L.length ≤ 16777216 → (∀ r ∈ L, r.length ≤ 16777216 ∧ ∀ p ∈ r, p.length ≤ 16777216) → Calls Tryz.prog 27 #[v] w fun e w' => e = .returned (.string ⟨(csvT L).toArray⟩) ∧ Below w.heap.size w w'
def ImplRead (W : World) : Prop := ∀ (s : ByteArray) (w : World), Below W.heap.size W w → s.size ≤ 16777216 → Calls Tryz.prog 88 #[.string s] w fun e w' => CsvPost w s.data.toList e w' ∧ Below w.heap.size w w'
theorem csvT_sz (L : List (List (List UInt8))) : (csvT L).length ≤ 3 * szL L + L.length := by
  induction L with
  | nil => simp [csvT, szL]
  | cons r t ih =>
    have h1 := rowT_w r
    have h2 : fieldsW r = 2 * lensum r + 3 * r.length := by
      clear h1 ih
      induction r with
      | nil => rfl
      | cons f u ihu =>
        have e : lensum (f :: u) = f.length + lensum u := by simp [lensum]
        rw [fieldsW, ihu, e, List.length_cons]
        omega
    have e : szL (r :: t) = (r.length + lensum r) + szL t := by simp [szL]
    rw [csvT, e]
    simp only [List.length_append, List.length_cons]
    omega
theorem lensum_mem {r : List (List UInt8)} {p : List UInt8} (h : p ∈ r) : p.length ≤ lensum r := by
  induction r with
  | nil => cases h
  | cons a t ih =>
    have e : lensum (a :: t) = a.length + lensum t := by simp [lensum]
    rcases List.mem_cons.1 h with rfl | h
    · omega
    · have := ih h
      omega
theorem sum_csvT (L : List (List (List UInt8))) : (L.map List.length).sum ≤ (csvT L).length := by
  induction L with
  | nil => simp [csvT]
  | cons r t ih =>
    have h := rowT_len r
    rw [csvT, List.map_cons, List.sum_cons]
    simp only [List.length_append, List.length_cons]
    omega
theorem csvQ_bound {l : List UInt8} {rows : List (List (List UInt8))} {c a b : Nat} (h : csvQ l = (rows, c, a, b)) : rows.length ≤ 4000 ∧ (csvT rows).length ≤ 36000 ∧ (rows.map List.length).sum ≤ 36000 ∧ (∀ r ∈ rows, r ≠ []) := by
  rw [csvQ] at h
  split at h
  · simp only [Prod.mk.injEq] at h
    obtain ⟨rfl, _⟩ := h
    simp [csvT]
  · rename_i hl
    cases hr : rdCsv l with
    | inl rs =>
      rw [hr] at h
      simp only [Prod.mk.injEq] at h
      obtain ⟨rfl, _⟩ := h
      have hw := rdAll_w _ l [] rs (by omega) hr (by simp)
      have hs := sum_csvT rs
      simp only [csvT, List.length_nil] at hw
      exact ⟨by omega, by omega, by omega, hw.1⟩
    | inr x =>
      obtain ⟨x, y⟩ := x
      rw [hr] at h
      simp only [Prod.mk.injEq] at h
      obtain ⟨rfl, _⟩ := h
      simp [csvT]
/-- What reading ends in, at given answers. -/
def CsvAt (rows : List (List (List UInt8))) (c a b : Nat) (w : World) (e : Ending) (w' : World) : Prop :=
  ∃ v, e = .returned (.tuple #[v, .agg #[.int .i64 c, .int .i64 a, .int .i64 b]]) ∧ SSOwn w' w.heap.size v rows
theorem csvPost_at {w w' : World} {l : List UInt8} {e : Ending} {rows : List (List (List UInt8))} {c a b : Nat} (h : csvQ l = (rows, c, a, b)) (hp : CsvPost w l e w') : CsvAt rows c a b w e w' := by
  obtain ⟨v, he, ho⟩ := hp
  rw [h] at he ho
  exact ⟨v, he, ho⟩

theorem rows_small {rows : List (List (List UInt8))} (h : (rows.map List.length).sum ≤ 36000) : ∀ r ∈ rows, r.length ≤ 9223372036854775807 := fun r hr => by
  have := sum_mem (List.mem_map_of_mem (f := List.length) hr)
  omega
end Go.Proofs.YticeagjonfifbaaGreatDoor
namespace Go.Proofs.YticeagjonfifbaaGreatDoor
open Go.RowKit

theorem szTab_ok (T : Tab) (u1 u2 u3 : Value) (w : World) (h : TabRow w T u1 u2 u3) (hsz : ∀ p ∈ T.ns, p.length ≤ 9223372036854775807) (left : Nat) (hleft : left ≤ 1048576) (m : Nat) (hm : left = szTab T + m) :
    Calls Tryz.prog 17 #[.agg #[u1, .string ⟨T.y.toArray⟩, u2, u3], .int .i64 left] w fun e w' => e = .returned (.int .i64 (m : Int)) ∧ Below w.heap.size w w' := by
  unfold szTab at hm
  exact szTab_5 T u1 u2 u3 w h hsz left hleft (left - (T.ns.length + lensum T.ns)) (by omega) (left - (T.ns.length + lensum T.ns) - T.y.length) (by omega) (left - (T.ns.length + lensum T.ns) - T.y.length - (T.rs.length + szLI T.rs)) (by omega) m (by omega)
theorem szTab_no (T : Tab) (u1 u2 u3 : Value) (w : World) (h : TabRow w T u1 u2 u3) (hsz : ∀ p ∈ T.ns, p.length ≤ 9223372036854775807) (hyl : T.y.length ≤ 9223372036854775807) (left : Nat) (hleft : left ≤ 1048576) (hf : left < szTab T) :
    Calls Tryz.prog 17 #[.agg #[u1, .string ⟨T.y.toArray⟩, u2, u3], .int .i64 left] w fun e w' => e = .returned (.int .i64 (-1)) ∧ Below w.heap.size w w' := by
  unfold szTab at hf
  by_cases h1 : left < T.ns.length + lensum T.ns
  · exact szTab_1 T u1 u2 u3 w h hsz left hleft h1
  · obtain ⟨l1, e1⟩ : ∃ l1, left = T.ns.length + lensum T.ns + l1 := ⟨left - (T.ns.length + lensum T.ns), by omega⟩
    by_cases h2 : l1 < T.y.length
    · exact szTab_2 T u1 u2 u3 w h hsz left hleft l1 e1 h2 hyl
    · obtain ⟨l2, e2⟩ : ∃ l2, l1 = T.y.length + l2 := ⟨l1 - T.y.length, by omega⟩
      by_cases h3 : l2 < T.rs.length + szLI T.rs
      · exact szTab_3 T u1 u2 u3 w h hsz left hleft l1 e1 l2 e2 h3
      · obtain ⟨l3, e3⟩ : ∃ l3, l2 = T.rs.length + szLI T.rs + l3 := ⟨l2 - (T.rs.length + szLI T.rs), by omega⟩
        exact szTab_4 T u1 u2 u3 w h hsz left hleft l1 e1 l2 e2 l3 e3 (by omega)
/-- What a table that fits keeps to. -/
theorem szTab_le {T : Tab} (h : szTab T ≤ 1048576) : T.ns.length ≤ 1048576 ∧ T.rs.length ≤ 1048576 ∧ (∀ r ∈ T.rs, r.length ≤ 1048576) ∧ T.ys.length ≤ 1048576 ∧ T.ns.length + szLI T.rs + T.ys.length ≤ 1048576 := by
  unfold szTab at h
  exact ⟨by omega, by omega, fun r hr => by have := szLI_mem hr; omega, by omega, by omega⟩
/-- What the last comparison keeps: two boxes. -/
abbrev TwT (W : World) (P Q : Nat) (p1 p2 p3 p4 q1 q2 q3 q4 : Value) (w' : World) : Prop := w'.cell? ⟨P, 0, none⟩ = some p1 ∧ w'.cell? ⟨P, 1, none⟩ = some p2 ∧ w'.cell? ⟨P, 2, none⟩ = some p3 ∧ w'.cell? ⟨P, 3, none⟩ = some p4 ∧ w'.cell? ⟨Q, 0, none⟩ = some q1 ∧ w'.cell? ⟨Q, 1, none⟩ = some q2 ∧ w'.cell? ⟨Q, 2, none⟩ = some q3 ∧ w'.cell? ⟨Q, 3, none⟩ = some q4 ∧ Below W.heap.size W w'
theorem TwT.mk {W w : World} {P Q : Nat} {T1 T2 : TypeId} {p1 p2 p3 p4 q1 q2 q3 q4 : Value} (h1 : w.heap[P]? = some (.cells #[p1, p2, p3, p4] T1 (0, 0))) (h2 : w.heap[Q]? = some (.cells #[q1, q2, q3, q4] T2 (0, 0))) (hB : Below W.heap.size W w) : TwT W P Q p1 p2 p3 p4 q1 q2 q3 q4 w :=
  ⟨cell_blk h1 0, cell_blk h1 1, cell_blk h1 2, cell_blk h1 3, cell_blk h2 0, cell_blk h2 1, cell_blk h2 2, cell_blk h2 3, hB⟩
theorem TwT.next {W w w' : World} {P Q : Nat} {p1 p2 p3 p4 q1 q2 q3 q4 : Value} (h : TwT W P Q p1 p2 p3 p4 q1 q2 q3 q4 w) (hB : Below w.heap.size w w') : TwT W P Q p1 p2 p3 p4 q1 q2 q3 q4 w' := by
  obtain ⟨a1, a2, a3, a4, b1, b2, b3, b4, h9⟩ := h
  have k : ∀ {p : Addr} {v : Value}, w.cell? p = some v → w'.cell? p = some v := fun h => (hB.cell (World.block_lt_of_cell? w _ h)).trans h
  exact ⟨k a1, k a2, k a3, k a4, k b1, k b2, k b3, k b4, bt h9 hB⟩
theorem below_dr9 {w w' : World} (h : Below w.drew.heap.size w.drew w') : Below w.heap.size w w' := ⟨h.os, h.tape, h.output, h.size, h.block⟩
theorem TabRow.drew {w : World} {T : Tab} {u1 u2 u3 : Value} (h : TabRow w T u1 u2 u3) : TabRow w.drew T u1 u2 u3 := h
/-- The three forms. -/
theorem TabRow.form {w : World} {T : Tab} {u1 u2 u3 : Value} (h : TabRow w T u1 u2 u3) : ∃ a1 c1 a2 c2 a3 c3, u1 = .slice a1 T.ns.length c1 ∧ u2 = .slice a2 T.rs.length c2 ∧ u3 = .slice a3 T.ys.length c3 := by
  obtain ⟨h1, h2, h3⟩ := h
  obtain ⟨a1, c1, rfl, _⟩ := sRow_form h1
  obtain ⟨a2, c2, rfl, _⟩ := iiRow_form h2
  obtain ⟨a3, c3, rfl, _⟩ := intRow_form h3
  exact ⟨a1, c1, a2, c2, a3, c3, rfl, rfl, rfl⟩
end Go.Proofs.YticeagjonfifbaaGreatDoor
namespace Go.Proofs.YticeagjonfifbaaGreatDoor
open Go.RowKit

theorem cell_apT {w : World} {b base s n : Nat} {T T' : TypeId} {v : Value} {xs : List Value} {cs : Array Value} (hc : w.heap[b]? = some (.cells cs T' (0, 0))) (ho : w.ownsRow base T s v n xs) (hT : T ≠ T') : v.ownBlock ≠ some b := by
  intro e
  rcases ho.2 with ⟨rfl, _⟩ | ⟨g, cap, cur, rfl, _, hg, _⟩
  · cases e
  · simp only [Value.ownBlock, Option.some.injEq] at e
    subst e
    rw [hc] at hg
    injection hg with hg
    injection hg with _ hg
    exact hT hg.symm
structure OutT (w wr : World) (bx : Array Value) (vo : Value) (rows : List (List (List UInt8))) : Prop where
  below : Below w.heap.size w wr
  cell : wr.heap[w.heap.size]? = some (.cells bx 28 (0, 0))
  out : SSOwn wr w.heap.size vo rows
structure TtSt (w wr : World) (bx : Array Value) (lo : Nat) (vo vr : Value) (rows : List (List (List UInt8))) (row : List (List UInt8)) : Prop where
  below : Below w.heap.size w wr
  cell : wr.heap[w.heap.size]? = some (.cells bx 28 (0, 0))
  out : ∃ vs, wr.ownsRow w.heap.size 24 1 vo rows.length vs ∧ RowsOwn wr w.heap.size 9 vs (rows.map strCells) ∧ ∀ (j : Nat) x g, vs[j]? = some x → x.ownBlock = some g → g < lo
  row : wr.ownsRow lo 9 1 vr row.length (strCells row)
  le : w.heap.size ≤ lo
  hi : lo ≤ wr.heap.size
theorem TtSt.next {w wr w' : World} {bx : Array Value} {lo : Nat} {vo vr : Value} {rows : List (List (List UInt8))} {row : List (List UInt8)} (h : TtSt w wr bx lo vo vr rows row) (hB : Below wr.heap.size wr w') : TtSt w w' bx lo vo vr rows row := by
  obtain ⟨vs, ho, hr, hlt⟩ := h.out
  exact ⟨h.below.trans (hB.mono h.below.size), (hB.block _ (blk_lt h.cell)).trans h.cell, ⟨vs, ho.kept (grown_of_below hB none) (by cases hv : vo.ownBlock <;> simp), hr.below hB, hlt⟩, h.row.kept (grown_of_below hB none) (by cases hv : vr.ownBlock <;> simp), h.le, Nat.le_trans h.hi hB.size⟩
theorem OutT.start {w wr : World} {bx : Array Value} {vo : Value} {rows : List (List (List UInt8))} (h : OutT w wr bx vo rows) : TtSt w (wr.alloc (.cells #[] 9)) bx wr.heap.size vo (.slice (some ⟨wr.heap.size, 0, none⟩) 0 0) rows [] := by
  obtain ⟨vs, ho, hr⟩ := h.out
  have hB : Below wr.heap.size wr (wr.alloc (.cells #[] 9)) := (Below.refl _ _).alloc (Nat.le_refl _) _
  exact ⟨h.below.trans (hB.mono h.below.size), (hB.block _ (blk_lt h.cell)).trans h.cell, ⟨vs, ho.kept (grown_of_below hB none) (by cases hv : vo.ownBlock <;> simp), hr.below hB, fun j x g hx hg => (hr.lt hx hg).2⟩, World.ownsRow_made wr #[] 0 (Nat.le_refl _) (by unfold maxLen; omega) (by simp), h.below.size, hB.size⟩
theorem TtSt.app {w wr w' : World} {bx : Array Value} {lo : Nat} {vo vr vr' : Value} {rows : List (List (List UInt8))} {row : List (List UInt8)} {f : List UInt8} (h : TtSt w wr bx lo vo vr rows row) (hg : wr.grownBy w' vr.ownBlock) (ho' : w'.ownsRow lo 9 1 vr' (row.length + 1) (strCells row ++ [.string ⟨f.toArray⟩])) : TtSt w w' bx lo vo vr' rows (row ++ [f]) := by
  obtain ⟨vs, ho, hr, hlt⟩ := h.out
  have hT : 9 ≠ 24 := by decide
  have hT2 : 9 ≠ 28 := by decide
  refine ⟨h.below.grown hg h.below.size (fun k hk => Nat.le_trans h.le (h.row.lt k hk).1), ?_, ⟨vs, ho.kept hg ?_, hr.kept hg (fun j u g hu hb e => ?_), hlt⟩, ?_, h.le, Nat.le_trans h.hi hg.size⟩
  · rw [hg.block _ (blk_lt h.cell) (fun e => cell_apT h.cell h.row hT2 e.symm)]
    exact h.cell
  · cases hb : vo.ownBlock with
    | none => exact Or.inl rfl
    | some b => exact Or.inr (fun e => owns_apart h.row ho hT b e.symm hb)
  · have := hlt j u g hu hb
    have := (h.row.lt g e).1
    omega
  · have e : (row ++ [f]).length = row.length + 1 := by simp
    rw [e, show strCells (row ++ [f]) = strCells row ++ [.string ⟨f.toArray⟩] by simp [strCells]]
    exact ho'
theorem TtSt.push {w wr w' : World} {bx : Array Value} {lo : Nat} {vo vr vo' : Value} {rows : List (List (List UInt8))} {row : List (List UInt8)} {vs : List Value} (h : TtSt w wr bx lo vo vr rows row) (ho : wr.ownsRow w.heap.size 24 1 vo rows.length vs) (hr : RowsOwn wr w.heap.size 9 vs (rows.map strCells)) (hlt : ∀ (j : Nat) x g, vs[j]? = some x → x.ownBlock = some g → g < lo)
    (hg : wr.grownBy w' vo.ownBlock) (ho' : w'.ownsRow w.heap.size 24 1 vo' (rows.length + 1) (vs ++ [vr])) : OutT w w' bx vo' (rows ++ [row]) := by
  have hT : 9 ≠ 24 := by decide
  have hT2 : 24 ≠ 28 := by decide
  have hu : w'.ownsRow w.heap.size 9 1 vr (strCells row).length (strCells row) := by
    rw [strCells_len]
    refine World.ownsRow.mono (h.row.kept hg ?_) h.le
    cases hb : vr.ownBlock with
    | none => exact Or.inl rfl
    | some b => exact Or.inr (fun e => owns_apart h.row ho hT b hb e.symm)
  refine ⟨h.below.grown hg h.below.size (fun k hk => (ho.lt k hk).1), ?_, vs ++ [vr], ?_, ?_⟩
  · rw [hg.block _ (blk_lt h.cell) (fun e => cell_apT h.cell ho hT2 e.symm)]
    exact h.cell
  · rw [show (rows ++ [row]).length = rows.length + 1 by simp]
    exact ho'
  · rw [show (rows ++ [row]).map strCells = rows.map strCells ++ [strCells row] by simp]
    exact (hr.outer ho hT hg).snoc (lo := lo) hu hlt (fun g hg => (h.row.lt g hg).1)
end Go.Proofs.YticeagjonfifbaaGreatDoor
namespace Go.Proofs.YticeagjonfifbaaGreatDoor
open Go.RowKit

theorem maxLen_keep {W w : World} {m : Int} (hm : W.cell? ⟨4, 0, none⟩ = some (.int .i64 m)) (hB : Below W.heap.size W w) : w.cell? ⟨4, 0, none⟩ = some (.int .i64 m) := by
  have hl := World.block_lt_of_cell? _ _ hm
  have h := hB.block _ hl
  simp only [World.cell?] at hm ⊢
  rw [h]
  exact hm
theorem mk_size (l : List UInt8) : (⟨l.toArray⟩ : ByteArray).size = l.length := by simp [ByteArray.size]
theorem quoted (y : List UInt8) : (⟨#[34]⟩ : ByteArray) ++ ⟨y.toArray⟩ ++ ⟨#[34]⟩ = ⟨(34 :: (y ++ [34])).toArray⟩ := by
  apply ByteArray.ext
  apply Array.ext'
  simp
theorem trs_le (l p : List UInt8) : (Lib.trimSuffix l p).length ≤ l.length := by
  unfold Lib.trimSuffix
  split
  · rw [List.length_take]; omega
  · omega
theorem trp_le (l p : List UInt8) : (Lib.trimPrefix l p).length ≤ l.length := by
  unfold Lib.trimPrefix
  split
  · rw [List.length_drop]; omega
  · omega
theorem cutR (s : ByteArray) (hs : s.size ≤ 16777216) (t : List UInt8) (ht : Lib.trimSuffix s.data.toList [13] = t) (w : World) :
    Calls Tryz.prog 128 #[.string s, .string ⟨#[13]⟩] w fun e w' => e = .returned (.string ⟨t.toArray⟩) ∧ w' = w := by
  have h := Tryz.strings_TrimSuffix s ⟨#[13]⟩ w (by omega)
  rw [show (⟨#[13]⟩ : ByteArray).data.toList = [13] from rfl, ht] at h
  exact h
theorem cutQ (t u : List UInt8) (b : Bool) (hu : Lib.trimPrefix t [34] = u) (hb : Lib.hasPrefix t [34] = b) (w : World) :
    Calls Tryz.prog 129 #[.string ⟨t.toArray⟩, .string ⟨#[34]⟩] w fun e w' => e = .returned (.tuple #[.string ⟨u.toArray⟩, .bool b]) ∧ w' = w := by
  have h := Tryz.strings_CutPrefix ⟨t.toArray⟩ ⟨#[34]⟩ w
  rw [show (⟨#[34]⟩ : ByteArray).data.toList = [34] from rfl, show (⟨t.toArray⟩ : ByteArray).data.toList = t from rfl, hu, hb] at h
  exact h
theorem cutE (u v : List UInt8) (hl : u.length ≤ 16777216) (hv : Lib.trimSuffix u [34] = v) (w : World) :
    Calls Tryz.prog 128 #[.string ⟨u.toArray⟩, .string ⟨#[34]⟩] w fun e w' => e = .returned (.string ⟨v.toArray⟩) ∧ w' = w := by
  have h := Tryz.strings_TrimSuffix ⟨u.toArray⟩ ⟨#[34]⟩ w (by rw [mk_size]; omega)
  rw [show (⟨#[34]⟩ : ByteArray).data.toList = [34] from rfl, show (⟨u.toArray⟩ : ByteArray).data.toList = u from rfl, hv] at h
  exact h
theorem unDbl (v x : List UInt8) (hl : v.length ≤ 16777216) (hx : Lib.replaceAll v [34, 34] [34] = x) (w : World) {m : Int} (hm : w.cell? ⟨4, 0, none⟩ = some (.int .i64 m)) :
    Calls Tryz.prog 106 #[.string ⟨v.toArray⟩, .string ⟨#[34, 34]⟩, .string ⟨#[34]⟩] w fun e w' => e = .returned (.string ⟨x.toArray⟩) ∧ Below w.heap.size w w' := by
  have hc := Lib.countB_mul_le ⟨#[34, 34]⟩ (by decide) _ ⟨v.toArray⟩ (Nat.le_refl _)
  rw [mk_size v, show (⟨#[34, 34]⟩ : ByteArray).size = 2 from rfl] at hc
  have h := Tryz.strings_ReplaceAll ⟨v.toArray⟩ ⟨#[34, 34]⟩ ⟨#[34]⟩ m w (by rw [mk_size v]; omega) hm (by decide) (by rw [mk_size v, show (⟨#[34]⟩ : ByteArray).size = 1 from rfl]; omega)
  rw [show (⟨#[34]⟩ : ByteArray).data.toList = [34] from rfl, show (⟨#[34, 34]⟩ : ByteArray).data.toList = [34, 34] from rfl, show (⟨v.toArray⟩ : ByteArray).data.toList = v from rfl, hx] at h
  exact h
theorem doDbl (s : ByteArray) (hl : s.size ≤ 16777216) (x : List UInt8) (hx : Lib.replaceAll s.data.toList [34] [34, 34] = x) (w : World) {m : Int} (hm : w.cell? ⟨4, 0, none⟩ = some (.int .i64 m)) :
    Calls Tryz.prog 106 #[.string s, .string ⟨#[34]⟩, .string ⟨#[34, 34]⟩] w fun e w' => e = .returned (.string ⟨x.toArray⟩) ∧ Below w.heap.size w w' := by
  have hc := Lib.countB_mul_le ⟨#[34]⟩ (by decide) _ s (Nat.le_refl _)
  rw [show (⟨#[34]⟩ : ByteArray).size = 1 from rfl] at hc
  have h := Tryz.strings_ReplaceAll s ⟨#[34]⟩ ⟨#[34, 34]⟩ m w (by omega) hm (by decide) (by rw [show (⟨#[34, 34]⟩ : ByteArray).size = 2 from rfl]; omega)
  rw [show (⟨#[34]⟩ : ByteArray).data.toList = [34] from rfl, show (⟨#[34, 34]⟩ : ByteArray).data.toList = [34, 34] from rfl, hx] at h
  exact h

set_option maxRecDepth 100000 in
/-- WHAT A FIELD's TEXT STANDS FOR. -/
theorem fieldValue (s : ByteArray) (hs : s.size ≤ 16777216) (w : World) {m : Int} (hm : w.cell? ⟨4, 0, none⟩ = some (.int .i64 m)) (x : List UInt8) (hx : fv7 s.data.toList = x) :
    Calls Tryz.prog 113 #[.string s] w fun e w' => e = .returned (.string ⟨x.toArray⟩) ∧ Below w.heap.size w w' := by
  obtain ⟨t, ht⟩ : ∃ t, Lib.trimSuffix s.data.toList [13] = t := ⟨_, rfl⟩
  obtain ⟨u, hu⟩ : ∃ u, Lib.trimPrefix t [34] = u := ⟨_, rfl⟩
  obtain ⟨v, hv⟩ : ∃ v, Lib.trimSuffix u [34] = v := ⟨_, rfl⟩
  have l0 : s.data.toList.length = s.size := (Lib.size_eq s).symm
  have l1 : t.length ≤ s.data.toList.length := by rw [← ht]; exact trs_le _ _
  have l2 : u.length ≤ t.length := by rw [← hu]; exact trp_le _ _
  have l3 : v.length ≤ u.length := by rw [← hv]; exact trs_le _ _
  have H1 := Lib.hid (fun W => cutR s hs t ht W)
  have H3 := Lib.hid (fun W => cutE u v (by omega) hv W)
  cases hb : Lib.hasPrefix t [34]
  · have hxt : t = x := by rw [← hx, fv7, ht, hb, if_neg (by simp)]
    have H2 := Lib.hid (fun W => cutQ t u false hu hb W)
    clear hb hu hv ht hx l0 l1 l2 l3 H3
    subst hxt
    go_enter Tryz.func113, Tryz.ntmps113
    go_wp2_with fail
    refine (H1.out _).mono ?_
    rintro e w1 ⟨rfl, rfl⟩
    go_wp2_with fail
    refine (H2.out _).mono ?_
    rintro e w2 ⟨rfl, rfl⟩
    go_wp2_with fail
    go_ret
    exact ⟨rfl, Below.refl _ _⟩
  · have hxr : Lib.replaceAll v [34, 34] [34] = x := by rw [← hx, fv7, ht, hb, if_pos rfl, hu, hv]
    have H2 := Lib.hid (fun W => cutQ t u true hu hb W)
    have H4 := Lib.hid (unDbl v x (by omega) hxr w hm)
    clear hb hu hv ht hx l0 l1 l2 l3 hxr hm
    go_enter Tryz.func113, Tryz.ntmps113
    go_wp2_with fail
    refine (H1.out _).mono ?_
    rintro e w1 ⟨rfl, rfl⟩
    go_wp2_with fail
    refine (H2.out _).mono ?_
    rintro e w2 ⟨rfl, rfl⟩
    go_wp2_with fail
    refine (H3.out _).mono ?_
    rintro e w3 ⟨rfl, rfl⟩
    go_wp2_with fail
    refine H4.out.mono ?_
    rintro e w4 ⟨rfl, hB⟩
    go_wp2_with fail
    go_ret
    exact ⟨rfl, hB⟩

set_option maxRecDepth 100000 in
/-- A FIELD's TEXT. -/
theorem csvFieldG (s : ByteArray) (hs : s.size ≤ 16777216) (w : World) {m : Int} (hm : w.cell? ⟨4, 0, none⟩ = some (.int .i64 m)) (x : List UInt8) (hx : csvF s.data.toList = x) :
    Calls Tryz.prog 79 #[.string s] w fun e w' => e = .returned (.string ⟨x.toArray⟩) ∧ Below w.heap.size w w' := by
  cases hc : s.data.toList.any spB
  · have hxs : (⟨x.toArray⟩ : ByteArray) = s := by
      rw [← hx, csvF, hc, if_neg (by simp)]
    have H1 := Lib.hid (containsFour s hs false hc w)
    rw [hxs]
    clear hxs hx hc hm
    go_enter Tryz.func79, Tryz.ntmps79
    go_wp2_with fail
    refine H1.out.mono ?_
    rintro e w1 ⟨rfl, hB⟩
    go_wp2_with fail
    go_ret
    exact ⟨rfl, hB⟩
  · obtain ⟨y, hy⟩ : ∃ y, Lib.replaceAll s.data.toList [34] [34, 34] = y := ⟨_, rfl⟩
    have hxy : x = 34 :: (y ++ [34]) := by rw [← hx, csvF, hc, if_pos rfl, ← hy, rep_dbl _ _ (Nat.le_refl _)]
    have hyl : y.length ≤ 2 * s.size := by
      rw [← hy, rep_dbl _ _ (Nat.le_refl _)]
      have := dblL_len s.data.toList
      rw [Lib.size_eq]
      exact this
    have H1 := Lib.hid (containsFour s hs true hc w)
    have H2 := Lib.hid (fun W hW => doDbl s hs y hy W (maxLen_keep hm hW))
    clear hy hx hc hm
    subst hxy
    go_enter Tryz.func79, Tryz.ntmps79
    go_wp2_with fail
    refine H1.out.mono ?_
    rintro e w1 ⟨rfl, hB⟩
    go_wp2_with fail
    refine (H2.out w1 hB).mono ?_
    rintro e w2 ⟨rfl, hB2⟩
    go_wp2_with fail
    go_ret
    exact ⟨by rw [quoted]; rfl, bt hB hB2⟩
theorem implField (W : World) (m : Int) (hm : W.cell? ⟨4, 0, none⟩ = some (.int .i64 m)) : ImplField W := fun s w hB hs =>
  csvFieldG s (by omega) w (maxLen_keep hm hB) _ rfl
end Go.Proofs.YticeagjonfifbaaGreatDoor
namespace Go.Proofs.YticeagjonfifbaaGreatDoor
open Go.RowKit

theorem owns_same {w w' : World} {base n : Nat} {T : TypeId} {v : Value} {xs : List Value} (h : w.ownsRow base T 1 v n xs) (hb : ∀ g, v.ownBlock = some g → w'.heap[g]? = w.heap[g]?) : w'.ownsRow base T 1 v n xs := by
  refine ⟨h.1, ?_⟩
  rcases h.2 with ⟨rfl, h0⟩ | ⟨g, cap, cur, rfl, h1, h2, h3⟩
  · exact Or.inl ⟨rfl, h0⟩
  · exact Or.inr ⟨g, cap, cur, rfl, h1, (hb g rfl).trans h2, h3⟩

set_option maxRecDepth 100000 in
set_option maxHeartbeats 2000000 in
theorem markTabH (T : Tab) (u1 u2 u3 : Value) (vs : List Value) (base k : Nat) (w : World) (h : TabOwn w base T vs u1 u2 u3) (hbase : base ≤ w.heap.size) (hk : 1 ≤ k) (l1 : T.ns.length ≤ 1048576) (l2 : T.rs.length ≤ 1048576) (l4 : T.ys.length ≤ 1048576) (hkl : k + T.ns.length + (T.rs.map List.length).sum ≤ 2097152) (hi : Nat) (hv1 : ∀ g, u1.ownBlock = some g → g < hi) (hvs : ∀ (j : Nat) u g, vs[j]? = some u → u.ownBlock = some g → g < hi) (hv3 : ∀ g, u3.ownBlock = some g → g < hi) :
    Calls Tryz.prog 21 #[.agg #[u1, .string ⟨T.y.toArray⟩, u2, u3], .int .i64 k] w fun e w' => e = .returned (.int .i64 ((k + T.ns.length + (T.rs.map List.length).sum + T.ys.length : Nat) : Int)) ∧ TabOwn w' base (marksT T k) vs u1 u2 u3 ∧ Below base w w' ∧ (∀ b, hi ≤ b → b < w.heap.size → w'.heap[b]? = w.heap[b]?) := by
  obtain ⟨h1, h2, h3, h4, hap⟩ := h
  obtain ⟨a1, c1, rfl⟩ := owns_form h1
  obtain ⟨a2, c2, rfl⟩ := owns_form h2
  obtain ⟨a3, c3, rfl⟩ := owns_form h4
  have hB0 : Below base w (w.alloc (.cells #[.slice a1 T.ns.length c1, .string ⟨T.y.toArray⟩, .slice a2 T.rs.length c2, .slice a3 T.ys.length c3] 28)) := (Below.refl base w).alloc hbase _
  have hB0b := bl_al w (.cells #[.slice a1 T.ns.length c1, .string ⟨T.y.toArray⟩, .slice a2 T.rs.length c2, .slice a3 T.ys.length c3] 28)
  have hb1 := alloc_blk w #[.slice a1 T.ns.length c1, .string ⟨T.y.toArray⟩, .slice a2 T.rs.length c2, .slice a3 T.ys.length c3] 28
  have o1 := owns_bl h1 hB0b
  have o2 := owns_bl h2 hB0b
  have o3 := h3.below hB0b
  have o4 := owns_bl h4 hB0b
  have hX : ∀ (j : Nat) u g, vs[j]? = some u → u.ownBlock = some g → base ≤ g ∧ g ≠ w.heap.size ∧ (Value.slice a1 T.ns.length c1).ownBlock ≠ some g := fun j u g hu hb => by
    have hj : j < (T.rs.map intCells).length := by rw [← h3.1]; exact (List.getElem?_eq_some_iff.1 hu).1
    refine ⟨(h3.lt hu hb).1, ?_, ?_⟩
    · have := (h3.lt hu hb).2
      omega
    · intro e
      exact owns_apart h1 (h3.2.1 j u _ hu (List.getElem?_eq_getElem hj)) (by decide) g e hb
  have HV1 := Lib.hid hv1
  have HVS := Lib.hid hvs
  have HV3 := Lib.hid hv3
  clear hv1 hvs hv3
  have P0 : Hid (∀ b, hi ≤ b → b < w.heap.size → (w.alloc (.cells #[.slice a1 T.ns.length c1, .string ⟨T.y.toArray⟩, .slice a2 T.rs.length c2, .slice a3 T.ys.length c3] 28)).heap[b]? = w.heap[b]?) := Lib.hid (fun b _ hb => Below.heap_alloc w _ b hb)
  have HX := Lib.hid hX
  have HAP := Lib.hid hap
  have hF : ∀ g, (Value.slice a1 T.ns.length c1).ownBlock = some g → base ≤ g ∧ g < w.heap.size := fun g e => h1.lt g e
  have HFF := Lib.hid hF
  clear hX hap hF h1 h2 h3 h4
  go_enter Tryz.func21, Tryz.ntmps21
  have p0 := cell_blk hb1 0
  go_wp2_with fail
  refine (markStr _ base T.ns.length k _ _ o1 hk (by omega) (by omega)).mono ?_
  rintro e w1 ⟨rfl, hM, hg⟩
  have m1 := marked_cells hM
  have b1 := blk_gr hb1 hg (fun e => by have := (HFF.out _ e.symm).2; omega)
  have g2 := owns_keep o2 o1 (by decide) hg
  have g3 := o3.kept hg (fun j u g hu hb e => by
    have hj : j < (T.rs.map intCells).length := by rw [← o3.1]; exact (List.getElem?_eq_some_iff.1 hu).1
    exact owns_apart (o3.2.1 j u _ hu (List.getElem?_eq_getElem hj)) o1 (by decide) g hb e)
  have g4 := owns_keep o4 o1 (by decide) hg
  have P1 : Hid (∀ b, hi ≤ b → b < w.heap.size → w1.heap[b]? = w.heap[b]?) := Lib.hid (fun b hb hbw => (hg.block b (Nat.lt_of_lt_of_le hbw hB0b.size) (fun e => by have := HV1.out b e.symm; omega)).trans (P0.out b hb hbw))
  have hB1 := hB0.grown hg (Nat.le_trans hbase hB0b.size) (fun b hb => (o1.lt b hb).1)
  obtain ⟨K, hK⟩ : ∃ K : Nat, k + T.ns.length = K := ⟨_, rfl⟩
  have e2 : (k : Int) + T.ns.length = (K : Int) := by omega
  rw [e2]
  have HK := Lib.hid hK
  have hK1 : K ≤ 2097152 := by omega
  have hK2 : K + (T.rs.map List.length).sum ≤ 2097152 := by omega
  have p2 := cell_blk b1 2
  clear hM hg o1 o2 o3 o4 hb1 hB0 hB0b e2 hK
  go_wp2_with fail
  refine (markII _ base _ vs T.rs K g2 g3 (fun a => (a.ownsRow base 9 1 (.slice a1 T.ns.length c1) (strCells (marks k T.ns.length)).length (strCells (marks k T.ns.length)) ∧ a.ownsRow base 3 1 (.slice a3 T.ys.length c3) T.ys.length (intCells T.ys) ∧ a.heap[w.heap.size]? = some (.cells #[.slice a1 T.ns.length c1, .string ⟨T.y.toArray⟩, .slice a2 T.rs.length c2, .slice a3 T.ys.length c3] 28 (0, 0))) ∧ Below base w a ∧ (∀ b, hi ≤ b → b < w.heap.size → a.heap[b]? = w.heap[b]?)) ?_ ⟨⟨m1, g4, b1⟩, hB1, P1.out⟩ (by omega) (by omega)).mono ?_
  · rintro j u a b hu hgu ⟨⟨t1, t3, t4⟩, t5, t6⟩
    refine ⟨⟨owns_far t1 hgu (fun g e => (HX.out j u g hu e).2.2), owns_far t3 hgu (fun g e => HAP.out j u g hu e), blk_gr t4 hgu (fun e => (HX.out j u _ hu e.symm).2.1 rfl)⟩, t5.grown hgu (Nat.le_trans hbase t5.size) (fun g e => (HX.out j u g hu e).1), fun b' hb' hbw => (hgu.block b' (Nat.lt_of_lt_of_le hbw t5.size) (fun e => by have := HVS.out j u b' hu e.symm; omega)).trans (t6 b' hb' hbw)⟩
  rintro e w2 ⟨rfl, ⟨q2, q3⟩, ⟨q1, q4, b2⟩, hB2, P2⟩
  have p3 := cell_blk b2 3
  obtain ⟨K2, hK3⟩ : ∃ K2 : Nat, K + (T.rs.map List.length).sum = K2 := ⟨_, rfl⟩
  rw [hK3] at hK2
  rw [hK3]
  have HK2 := Lib.hid hK3
  clear m1 b1 g2 g3 g4 hB1 p2 p0 hK3
  go_wp2_with fail
  refine (markI _ base T.ys.length K2 _ _ q4 (by omega) (by omega)).mono ?_
  rintro e w3 ⟨rfl, r4, hg3⟩
  have r1 := owns_keep q1 q4 (by decide) hg3
  have r2 := owns_keep q2 q4 (by decide) hg3
  have r3 := q3.kept hg3 (fun j u g hu hb => HAP.out j u g hu hb)
  have hB3 := hB2.grown hg3 (Nat.le_trans hbase hB2.size) (fun b hb => (q4.lt b hb).1)
  go_wp2_with fail
  go_ret
  have f1 := HK.out
  have f2 := HK2.out
  refine ⟨ret_int (by omega), ⟨?_, ?_, ?_, ?_, HAP.out⟩, hB3, fun b hb hbw => (hg3.block b (Nat.lt_of_lt_of_le hbw hB2.size) (fun e => by have := HV3.out b e.symm; omega)).trans (P2 b hb hbw)⟩
  · rw [strCells_len] at r1
    exact r1
  · have e : (marksT T k).rs.length = T.rs.length := by rw [marksT, marksLI_len, List.length_map]
    rw [e]
    exact r2
  · rw [marksT, f1]
    exact r3
  · have e : (marksT T k).ys.length = T.ys.length := by rw [marksT, marksI_len]
    rw [e, marksT, f1, f2]
    exact r4

end Go.Proofs.YticeagjonfifbaaGreatDoor
namespace Go.Proofs.YticeagjonfifbaaGreatDoor
open Go.RowKit

theorem st7_one {q : Nat} {c : UInt8} (h : st7 q c = 1) : c = 44 := by
  unfold st7 at h
  repeat' split at h
  all_goals first | assumption | (exfalso; omega)
theorem st7_zero {q : Nat} {c : UInt8} (h : st7 q c = 0) : c = 10 := by
  unfold st7 at h
  repeat' split at h
  all_goals first | assumption | (exfalso; omega)
theorem st7_le (q : Nat) (c : UInt8) : st7 q c ≤ 6 := by
  unfold st7
  repeat' split
  all_goals omega
theorem st7_five {q : Nat} {c : UInt8} (h : st7 q c = 5) : c = 13 := by
  unfold st7 at h
  repeat' split at h
  all_goals first | assumption | (exfalso; omega)
theorem st7_four {q : Nat} {c : UInt8} (h : st7 q c = 4) : c = 34 := by
  unfold st7 at h
  repeat' split at h
  all_goals first | assumption | (exfalso; omega)
/-- What lies between two places of a text. -/
theorem cut_toList (s : ByteArray) (p i : Nat) : (s.extract p i).data.toList = (s.data.toList.drop p).take (i - p) := Lib.extract_data s p i
theorem cut_more (s : ByteArray) {p i : Nat} (h : p ≤ i) (k : Nat) : (s.data.toList.drop p).take (i + k - p) = (s.data.toList.drop p).take (i - p) ++ (s.data.toList.drop i).take k := by
  rw [show i + k - p = (i - p) + k by omega, List.take_add, List.drop_drop, show p + (i - p) = i by omega]
/-- ONE RUNE. -/
theorem mach_rune (s : ByteArray) {i q p : Nat} (hi : i < s.size) (hp : p ≤ i) {row : List (List UInt8)} {rows : List (List (List UInt8))} {R : List (List (List UInt8)) ⊕ (Nat × Nat)}
    (h : mach (s.data.toList.drop i) q ((s.data.toList.drop p).take (i - p)) row rows = R) :
    ∃ v : Nat, st7R q (Utf8.decode s i).1 = v ∧ 1 ≤ (Utf8.decode s i).2 ∧ i + (Utf8.decode s i).2 ≤ s.size ∧
      ((v = 1 ∧ (Utf8.decode s i).2 = 1 ∧ mach (s.data.toList.drop (i + 1)) 1 [] (row ++ [fv7 ((s.data.toList.drop p).take (i - p))]) rows = R) ∨
       (v = 0 ∧ (Utf8.decode s i).2 = 1 ∧ mach (s.data.toList.drop (i + 1)) 0 [] [] (rows ++ [row ++ [fv7 ((s.data.toList.drop p).take (i - p))]]) = R) ∨
       (v = 6 ∧ R = .inr (rows.length, row.length)) ∨
       (2 ≤ v ∧ v < 6 ∧ mach (s.data.toList.drop (i + (Utf8.decode s i).2)) v ((s.data.toList.drop p).take (i + (Utf8.decode s i).2 - p)) row rows = R)) := by
  obtain ⟨x, hx⟩ : ∃ x : UInt8, s[i]'hi = x := ⟨_, rfl⟩
  have hd : s.data.toList.drop i = x :: s.data.toList.drop (i + 1) := by rw [drop_at hi, hx]
  have hst : st7R q (Utf8.decode s i).1 = (st7 q x : Int) ∧ 1 ≤ (Utf8.decode s i).2 ∧ i + (Utf8.decode s i).2 ≤ s.size := by
    by_cases ha : x.toNat < 128
    · have e := decode_ascii s i hi (by rw [hx]; exact ha)
      rw [e, hx]
      exact ⟨st7R_byte q x, Nat.le_refl _, hi⟩
    · have hr := rune_step s i hi (by rw [hx]; omega)
      exact ⟨st7R_high q (by omega) (by omega), hr.2.1, hr.2.2.1⟩
  have hone : x.toNat < 128 → (Utf8.decode s i).2 = 1 := fun ha => by rw [decode_ascii s i hi (by rw [hx]; exact ha)]
  refine ⟨st7 q x, hst.1, hst.2.1, hst.2.2, ?_⟩
  rw [hd, mach] at h
  by_cases h1 : st7 q x = 1
  · rw [if_pos h1] at h
    exact Or.inl ⟨h1, hone (by rw [st7_one h1]; decide), h⟩
  rw [if_neg h1] at h
  by_cases h0 : st7 q x = 0
  · rw [if_pos h0] at h
    exact Or.inr (Or.inl ⟨h0, hone (by rw [st7_zero h0]; decide), h⟩)
  rw [if_neg h0] at h
  by_cases h6 : st7 q x = 6
  · rw [if_pos h6] at h
    exact Or.inr (Or.inr (Or.inl ⟨h6, h.symm⟩))
  rw [if_neg h6] at h
  have hle := st7_le q x
  refine Or.inr (Or.inr (Or.inr ⟨by omega, by omega, ?_⟩))
  rw [cut_more s hp]
  by_cases ha : x.toNat < 128
  · rw [hone ha, hd, List.take_succ_cons, List.take_zero]
    exact h
  · have hr := rune_step s i hi (by rw [hx]; omega)
    have hv : st7 q x = 2 ∨ st7 q x = 3 := by
      have h5 : st7 q x ≠ 5 := fun e => by rw [st7_five e] at ha; revert ha; decide
      have h4 : st7 q x ≠ 4 := fun e => by rw [st7_four e] at ha; revert ha; decide
      omega
    obtain ⟨k, hk⟩ : ∃ k, (Utf8.decode s i).2 = k + 1 := ⟨(Utf8.decode s i).2 - 1, by omega⟩
    have hsp : s.data.toList.drop (i + 1) = (s.data.toList.drop (i + 1)).take k ++ s.data.toList.drop (i + (k + 1)) := by
      have e : s.data.toList.drop (i + (k + 1)) = (s.data.toList.drop (i + 1)).drop k := by rw [List.drop_drop, show i + 1 + k = i + (k + 1) by omega]
      rw [e, List.take_append_drop]
    rw [hsp, mach_high _ _ _ _ _ _ ?_ hv] at h
    · rw [hk, hd, List.take_succ_cons]
      rw [List.append_assoc] at h
      exact h
    · intro b hb
      obtain ⟨j, hj, e⟩ := List.getElem_of_mem hb
      rw [List.length_take] at hj
      rw [List.getElem_take, List.getElem_drop] at e
      refine hr.2.2.2 (i + 1 + j) b (by omega) (by rw [hk]; omega) ?_
      rw [List.getElem?_eq_some_iff]
      exact ⟨_, e⟩
/-- The text is through. -/
theorem mach_end (s : ByteArray) {q p : Nat} {row : List (List UInt8)} {rows : List (List (List UInt8))} {R : List (List (List UInt8)) ⊕ (Nat × Nat)}
    (h : mach (s.data.toList.drop s.size) q ((s.data.toList.drop p).take (s.size - p)) row rows = R) :
    ((q = 3 ∨ q = 5) → R = .inr (rows.length, row.length)) ∧ (q = 0 → R = .inl rows) ∧ (q ≠ 3 → q ≠ 5 → q ≠ 0 → R = .inl (rows ++ [row ++ [fv7 ((s.data.toList.drop p).take (s.size - p))]])) := by
  rw [drop_none (Nat.le_refl _), mach] at h
  refine ⟨fun hq => by rw [if_pos hq] at h; exact h.symm, fun hq => ?_, fun h3 h5 h0 => ?_⟩
  · rw [if_neg (by omega), if_pos hq] at h
    exact h.symm
  · rw [if_neg (by omega), if_neg h0] at h
    exact h.symm

/-! An iterator beside rows. -/
theorem iter_apart {w : World} {k base sz n : Nat} {T : TypeId} {v : Value} {xs : List Value} {s : ByteArray} {i : Nat} (hit : w.heap[k]? = some (.stringIter s i)) (ho : w.ownsRow base T sz v n xs) : v.ownBlock ≠ some k := by
  intro e
  rcases ho.2 with ⟨rfl, _⟩ | ⟨g, cap, cur, rfl, _, hg, _⟩
  · cases e
  · simp only [Value.ownBlock, Option.some.injEq] at e
    subst e
    rw [hit] at hg
    cases hg
theorem iter_grown {w w' : World} {k base sz n : Nat} {T : TypeId} {v : Value} {xs : List Value} {s : ByteArray} {i : Nat} (hit : w.heap[k]? = some (.stringIter s i)) (ho : w.ownsRow base T sz v n xs) (hg : w.grownBy w' v.ownBlock) : w'.heap[k]? = some (.stringIter s i) := by
  rw [hg.block k (blk_lt hit) (fun e => iter_apart hit ho e.symm)]
  exact hit
theorem CsvSt.iter {w wr : World} {lo k : Nat} {vo vr : Value} {rows : List (List (List UInt8))} {row : List (List UInt8)} {s : ByteArray} {i : Nat} (h : CsvSt w wr lo vo vr rows row) (hit : wr.heap[k]? = some (.stringIter s i)) (hk : w.heap.size ≤ k) (p : Nat) : CsvSt w (wr.iterAt k s p) lo vo vr rows row := by
  have hg : wr.grownBy (wr.iterAt k s p) (some k) := ⟨rfl, rfl, rfl, by rw [Lib.iterAt_size]; exact Nat.le_refl _, fun j _ hne => Lib.iterAt_other wr k j s p (fun e => hne (by rw [e]))⟩
  have keep : ∀ {base n : Nat} {T : TypeId} {v : Value} {xs : List Value}, wr.ownsRow base T 1 v n xs → (wr.iterAt k s p).ownsRow base T 1 v n xs := fun {base n T v xs} ho => ho.kept hg (by
    cases hb : v.ownBlock with
    | none => exact Or.inl rfl
    | some b => exact Or.inr (fun e => iter_apart hit ho (hb.trans e)))
  obtain ⟨vs, ho, hr, hlt⟩ := h.out
  refine ⟨Lib.below_iterAt h.below hk s p, ?_, ⟨vs, keep ho, ⟨hr.1, fun j u c hu hc => keep (hr.2.1 j u c hu hc), hr.2.2⟩, hlt⟩, keep h.row, h.le, by rw [Lib.iterAt_size]; exact h.hi⟩
  rw [Lib.iterAt_other _ _ _ _ _ (fun e => by have := h.cell; rw [e, hit] at this; cases this)]
  exact h.cell
theorem CsvSt.fin {w wr : World} {lo : Nat} {vo vr : Value} {rows : List (List (List UInt8))} {row : List (List UInt8)} (h : CsvSt w wr lo vo vr rows row) : OutSt w wr vo rows := by
  obtain ⟨vs, ho, hr, _⟩ := h.out
  exact ⟨h.below, h.cell, vs, ho, hr⟩
theorem nil_ss (w : World) (base : Nat) : SSOwn w base (.slice none 0 0) [] := ⟨[], World.ownsRow_nil _ _ _ _, RowsOwn.nil _ _ _⟩
theorem CsvSt.fault {w wr : World} {lo : Nat} {vo vr : Value} {rows : List (List (List UInt8))} {row : List (List UInt8)} (h : CsvSt w wr lo vo vr rows row) (x y z : Value) : Below w.heap.size w (((wr.setCell ⟨w.heap.size, 0, none⟩ x).setCell ⟨w.heap.size, 1, none⟩ y).setCell ⟨w.heap.size, 2, none⟩ z) :=
  ((h.below.setCell (Nat.le_refl _) _).setCell (Nat.le_refl _) _).setCell (Nat.le_refl _) _
theorem csvSt_start (w : World) : CsvSt w (((w.alloc (.cells #[.int .i64 0, .int .i64 0, .int .i64 0] 33)).alloc (.cells #[] 24)).alloc (.cells #[] 9)) (w.heap.size + 2) (.slice (some ⟨w.heap.size + 1, 0, none⟩) 0 0) (.slice (some ⟨w.heap.size + 2, 0, none⟩) 0 0) [] [] := by
  have h := (outSt_start w).start
  have e : ((w.alloc (.cells #[.int .i64 0, .int .i64 0, .int .i64 0] 33)).alloc (.cells #[] 24)).heap.size = w.heap.size + 2 := by simp
  rw [e] at h
  exact h
end Go.Proofs.YticeagjonfifbaaGreatDoor
namespace Go.Proofs.YticeagjonfifbaaGreatDoor
open Go.RowKit

/-- A builder at block b that holds the bytes l. -/
def Bld (w : World) (b : Nat) (l : List UInt8) : Prop := Lib.IsBuilder 92 5 b b (Lib.byteCells l) w
theorem Bld.below {w w' : World} {b : Nat} {l : List UInt8} (h : Bld w b l) (hB : Below w.heap.size w w') : Bld w' b l := by
  have key : ∀ p, Lib.BuilderAt 92 5 b b p (Lib.byteCells l) w → Lib.BuilderAt 92 5 b b p (Lib.byteCells l) w' := by
    rintro p ⟨h1, v, hb, ho, hne⟩
    exact ⟨h1, v, (hB.block _ (blk_lt hb)).trans hb, ho.kept (grown_of_below hB none) (by cases hv : v.ownBlock <;> simp), hne⟩
  exact h.elim (fun x => .inl (key _ x)) (fun x => .inr (key _ x))
theorem Bld.lt {w : World} {b : Nat} {l : List UInt8} (h : Bld w b l) : b < w.heap.size := h.elim (fun x => x.lt) (fun x => x.lt)
theorem bld_new (w : World) : Bld (w.alloc (.cells #[.pointer none, .slice none 0 0] 92)) w.heap.size [] := Lib.fresh_isBuilder _ _ w
theorem bldByte {w : World} {b : Nat} {l : List UInt8} (h : Bld w b l) (hl : l.length + 1 ≤ 140737488355328) (c : UInt8) (z : Int) (hz : z = c.toNat) :
    Calls Tryz.prog 77 #[.pointer (some ⟨b, 0, none⟩), .int .u8 z] w fun e w' => e = .returned .nilIface ∧ Bld w' b (l ++ [c]) ∧ Below b w w' := by
  subst hz
  refine (Tryz.Builder_WriteByte b b _ _ w h (by rw [Lib.byteCells_length]; exact hl) (Nat.le_of_lt h.lt)).mono fun e w' ⟨he, hb, hB⟩ => ⟨he, .inr ?_, hB⟩
  rw [Lib.byteCells_append]
  exact hb
theorem bldStr {w : World} {b : Nat} {l f : List UInt8} (h : Bld w b l) (hl : l.length + f.length ≤ 140737488355328) :
    Calls Tryz.prog 78 #[.pointer (some ⟨b, 0, none⟩), .string ⟨f.toArray⟩] w fun e w' => (∃ k : Int, e = .returned (.tuple #[.int .i64 k, .nilIface])) ∧ Bld w' b (l ++ f) ∧ Below b w w' := by
  refine (Tryz.Builder_WriteString b b _ ⟨f.toArray⟩ w h (by rw [Lib.byteCells_length, mk_size]; exact hl) (Nat.le_of_lt h.lt)).mono fun e w' ⟨he, hb, hB⟩ => ⟨⟨_, he⟩, .inr ?_, hB⟩
  rw [Lib.byteCells_append]
  exact hb
theorem bldDone {w : World} {b : Nat} {l : List UInt8} (h : Bld w b l) :
    Calls Tryz.prog 80 #[.pointer (some ⟨b, 0, none⟩)] w fun e w' => e = .returned (.string ⟨l.toArray⟩) ∧ Below b w w' :=
  Tryz.Builder_String_any b b l w h (Nat.le_of_lt h.lt)

/-- The world while the rows are written: the builder is the first block behind w. -/
structure TxSt (w wr : World) (l : List UInt8) : Prop where
  below : Below w.heap.size w wr
  bld : Bld wr w.heap.size l
theorem TxSt.next {w wr w' : World} {l : List UInt8} (h : TxSt w wr l) (hB : Below wr.heap.size wr w') : TxSt w w' l :=
  ⟨h.below.trans (hB.mono h.below.size), h.bld.below hB⟩
theorem TxSt.wrote {w wr w' : World} {l l' : List UInt8} (h : TxSt w wr l) (hb : Bld w' w.heap.size l') (hB : Below w.heap.size wr w') : TxSt w w' l' :=
  ⟨h.below.trans hB, hb⟩
theorem TxSt.start (w : World) : TxSt w (w.alloc (.cells #[.pointer none, .slice none 0 0] 92)) [] :=
  ⟨(Below.refl _ _).alloc (Nat.le_refl _) _, bld_new w⟩

set_option maxRecDepth 100000 in
set_option maxHeartbeats 4000000 in
theorem textG (w : World) (a : Option Addr) (c : Nat) (L : List (List (List UInt8))) (hl : L.length ≤ 9223372036854775807) (ht : (csvT L).length ≤ 16777216) (hz : ∀ r ∈ L, ∀ p ∈ r, p.length ≤ 16777216)
    {m : Int} (hm : w.cell? ⟨4, 0, none⟩ = some (.int .i64 m))
    (hc : ∀ (j : Nat) row, L[j]? = some row → ∃ b off u, a = some ⟨b, off, none⟩ ∧ w.cell? ⟨b, off + j, none⟩ = some u ∧ StrRow w u row) :
    Calls Tryz.prog 27 #[.slice a L.length c] w fun e w' => e = .returned (.string ⟨(csvT L).toArray⟩) ∧ Below w.heap.size w w' := by
  have HC := Lib.hid hc
  have HT := Lib.hid ht
  have HZ := Lib.hid hz
  have HF := Lib.hid (fun (p : List UInt8) (hp : p.length ≤ 16777216) (W : World) (hW : Below w.heap.size w W) => csvFieldG ⟨p.toArray⟩ (by rw [mk_size]; exact hp) W (maxLen_keep hm hW) (csvF p) rfl)
  clear hc ht hz hm
  obtain ⟨n, hn⟩ : ∃ n : Nat, L.length = n := ⟨_, rfl⟩
  rw [hn] at hl ⊢
  have HE := Lib.hid hn
  clear hn
  go_enter Tryz.func27, Tryz.ntmps27
  go_wp2_with fail
  go_loopg [5, 6, 7, 10] n (fun g _ _ _ i wr => ∃ j : Nat, j ≤ n ∧ g = n - j ∧ i = .int .i64 j ∧ TxSt w wr (csvT (L.take j)))
  case atStart => exact ⟨0, Nat.zero_le _, rfl, rfl, TxSt.start w⟩
  case round =>
    obtain ⟨j, hj, rfl, rfl, hS⟩ := hrel
    have HS := Lib.hid hS
    clear hS
    by_cases hlt : j < n
    · have hj1 : (j : Int) < n := by omega
      have hj0 : (0 : Int) ≤ j := by omega
      obtain ⟨r, hr⟩ : ∃ r, L[j]? = some r := ⟨_, List.getElem?_eq_getElem (by rw [HE.out]; exact hlt)⟩
      obtain ⟨b, off, u, rfl, hcu0, hru⟩ := HC.out j r hr
      obtain ⟨A, cA, rfl, hrl, hrc⟩ := strRow_form hru
      have hcu := (HS.out.below.cell (p := ⟨b, off + j, none⟩) (World.block_lt_of_cell? w _ hcu0)).trans hcu0
      have HRC := Lib.hid hrc
      have HR := Lib.hid hr
      have HPZ : Hid (∀ (q : Nat) p, r[q]? = some p → p.length ≤ 16777216) := Lib.hid (fun q p hq => HZ.out r (List.mem_of_getElem? hr) p (List.mem_of_getElem? hq))
      obtain ⟨k, hk⟩ : ∃ k : Nat, r.length = k := ⟨_, rfl⟩
      rw [hk] at hrl hcu
      have HM := Lib.hid hk
      have HS0 := Lib.hid (show TxSt w wr (csvT (L.take j) ++ rowT (r.take 0)) by rw [show csvT (L.take j) ++ rowT (r.take 0) = csvT (L.take j) by simp [rowT]]; exact HS.out)
      clear hcu0 hru hrc hr hk HS
      go_wp2_with fail
      clear hcu
      go_loopg [6, 7, 16] k (fun g _ _ i wr => ∃ q : Nat, q ≤ k ∧ g = k - q ∧ i = .int .i64 q ∧ TxSt w wr (csvT (L.take j) ++ rowT (r.take q)))
      case atStart => exact ⟨0, Nat.zero_le _, rfl, rfl, HS0.out⟩
      case round =>
        clear HS0
        obtain ⟨q, hq, rfl, rfl, hS⟩ := hrel
        have HS := Lib.hid hS
        clear hS
        by_cases hqm : q < k
        · have hq1 : (q : Int) < k := by omega
          have hq9 : (0 : Int) ≤ q := by omega
          obtain ⟨p, hp⟩ : ∃ p, r[q]? = some p := ⟨_, List.getElem?_eq_getElem (by rw [HM.out]; exact hqm)⟩
          obtain ⟨b2, off2, rfl, hcp0⟩ := HRC.out q p hp
          have hcp := (HS.out.below.cell (p := ⟨b2, off2 + q, none⟩) (World.block_lt_of_cell? w _ hcp0)).trans hcp0
          have HP := Lib.hid hp
          have HPL := Lib.hid (HPZ.out q p hp)
          clear hp hcp0
          by_cases h0 : q = 0
          · have hq0 : ¬ (0 : Int) < q := by omega
            have HL : Hid (csvT (L.take j) ++ rowT (r.take (q + 1)) = csvT (L.take j) ++ rowT (r.take q) ++ csvF p) := Lib.hid (by rw [rowT_take_succ HP.out, if_pos h0, h0]; simp [rowT])
            have HB := Lib.hid (csvT_part HR.out (q + 1))
            rw [HL.out] at HB
            generalize csvT (L.take j) ++ rowT (r.take q) = l at HS HL HB
            have HB2 : Hid (l.length + (csvF p).length ≤ 140737488355328) := Lib.hid (by have h1 := HB.out; have h2 := HT.out; rw [List.length_append] at h1; omega)
            clear h0
            go_wp2_with fail
            refine (HF.out p HPL.out wr HS.out.below).mono ?_
            rintro e w1 ⟨rfl, hB1⟩
            have H1 := Lib.hid (HS.out.next hB1)
            clear hB1 hcp HS
            go_wp2_with fail
            refine (bldStr H1.out.bld HB2.out).mono ?_
            rintro e w2 ⟨⟨k2, rfl⟩, hb2, hB2⟩
            have H2 := Lib.hid (H1.out.wrote hb2 hB2)
            clear hb2 hB2 H1
            go_wp2_with fail
            go_roundg (k - (q + 1))
            case measure => omega
            case rel => exact ⟨q + 1, by omega, rfl, by go_num, by rw [HL.out]; exact H2.out⟩
          · have hq0 : (0 : Int) < q := by omega
            have HL : Hid (csvT (L.take j) ++ rowT (r.take (q + 1)) = csvT (L.take j) ++ rowT (r.take q) ++ [44] ++ csvF p) := Lib.hid (by rw [rowT_take_succ HP.out, if_neg h0]; simp)
            have HB := Lib.hid (csvT_part HR.out (q + 1))
            rw [HL.out] at HB
            generalize csvT (L.take j) ++ rowT (r.take q) = l at HS HL HB
            have HB2 : Hid ((l ++ [44]).length + (csvF p).length ≤ 140737488355328) := Lib.hid (by have h1 := HB.out; have h2 := HT.out; simp only [List.length_append, List.length_cons, List.length_nil] at h1 ⊢; omega)
            have HB1 : Hid (l.length + 1 ≤ 140737488355328) := Lib.hid (by have h1 := HB2.out; simp only [List.length_append, List.length_cons, List.length_nil] at h1; omega)
            clear h0
            go_wp2_with fail
            refine (bldByte HS.out.bld HB1.out 44 _ rfl).mono ?_
            rintro e w0 ⟨rfl, hb0, hB0⟩
            have H0 := Lib.hid (HS.out.wrote hb0 hB0)
            clear hb0 hB0 hcp HS
            go_wp2_with fail
            refine (HF.out p HPL.out w0 H0.out.below).mono ?_
            rintro e w1 ⟨rfl, hB1⟩
            have H1 := Lib.hid (H0.out.next hB1)
            clear hB1 H0
            go_wp2_with fail
            refine (bldStr H1.out.bld HB2.out).mono ?_
            rintro e w2 ⟨⟨k2, rfl⟩, hb2, hB2⟩
            have H2 := Lib.hid (H1.out.wrote hb2 hB2)
            clear hb2 hB2 H1
            go_wp2_with fail
            go_roundg (k - (q + 1))
            case measure => omega
            case rel => exact ⟨q + 1, by omega, rfl, by go_num, by rw [HL.out]; exact H2.out⟩
        · have hqe : q = k := by omega
          have hq1 : ¬ (q : Int) < k := by omega
          have HL : Hid (csvT (L.take (j + 1)) = csvT (L.take j) ++ rowT (r.take q) ++ [10]) := Lib.hid (by
            rw [csvT_take_succ HR.out, show r.take q = r from List.take_of_length_le (by rw [HM.out]; omega)])
          have HB := Lib.hid (csvT_part HR.out q)
          generalize csvT (L.take j) ++ rowT (r.take q) = l at HS HL HB
          have HB1 : Hid (l.length + 1 ≤ 140737488355328) := Lib.hid (by have h1 := HB.out; have h2 := HT.out; omega)
          clear hqe
          go_wp2_with fail
          refine (bldByte HS.out.bld HB1.out 10 _ rfl).mono ?_
          rintro e w0 ⟨rfl, hb0, hB0⟩
          have H0 := Lib.hid (HS.out.wrote hb0 hB0)
          clear hb0 hB0 HS
          go_wp2_with fail
          go_roundg (n - (j + 1))
          case measure => omega
          case rel => exact ⟨j + 1, by omega, rfl, by go_num, by rw [HL.out]; exact H0.out⟩
    · have hje : j = n := by omega
      have hj1 : ¬ (j : Int) < n := by omega
      have HL : Hid (L.take j = L) := Lib.hid (List.take_of_length_le (by rw [HE.out]; omega))
      rw [HL.out] at HS
      clear hje
      go_wp2_with fail
      refine (bldDone HS.out.bld).mono ?_
      rintro e w1 ⟨rfl, hB1⟩
      go_wp2_with fail
      go_ret
      exact ⟨rfl, HS.out.below.trans hB1⟩

theorem implText (W : World) (m : Int) (hm : W.cell? ⟨4, 0, none⟩ = some (.int .i64 m)) : ImplText W := by
  intro w v L hB h ht _ hz
  obtain ⟨a, c, rfl, hl, hf⟩ := ssRow_form h
  exact textG w a c L hl ht (fun r hr => (hz r hr).2) (maxLen_keep hm hB) hf
end Go.Proofs.YticeagjonfifbaaGreatDoor
