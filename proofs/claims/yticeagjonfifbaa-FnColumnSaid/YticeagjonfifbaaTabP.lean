/-
  The reading of a table: what a walk keeps (the box of the table, its parts, the row that is read).
-/
import Derived.Test.YticeagjonfifbaaTabS
import Derived.Test.YticeagjonfifbaaTabC
import Derived.Test.YticeagjonfifbaaCsvI
namespace Go.Proofs.Yticeagjonfifbaa
open Go.RowKit

theorem cell_apP {w : World} {b base s n : Nat} {T T' : TypeId} {v : Value} {xs : List Value} {cs : Array Value} (hc : w.heap[b]? = some (.cells cs T' (0, 0))) (ho : w.ownsRow base T s v n xs) (hT : T ≠ T') : v.ownBlock ≠ some b := by
  intro e
  rcases ho.2 with ⟨rfl, _⟩ | ⟨g, cap, cur, rfl, _, hg, _⟩
  · cases e
  · simp only [Value.ownBlock, Option.some.injEq] at e
    subst e
    rw [hc] at hg
    injection hg with hg
    injection hg with _ hg
    exact hT hg.symm
/-- What is kept of a table that is being read: its box holds cs. -/
structure RtO (w2 wr : World) (ob : Nat) (cs : Array Value) (T : Tab) (vs : List Value) (u1 u2 u3 : Value) : Prop where
  bel : Below w2.heap.size w2 wr
  box : wr.heap[ob]? = some (.cells cs 28 (0, 0))
  own : TabOwn wr w2.heap.size T vs u1 u2 u3
  ge : w2.heap.size ≤ ob
theorem RtO.next {w2 wr w' : World} {ob : Nat} {cs : Array Value} {T : Tab} {vs : List Value} {u1 u2 u3 : Value} (h : RtO w2 wr ob cs T vs u1 u2 u3) (hB : Below wr.heap.size wr w') : RtO w2 w' ob cs T vs u1 u2 u3 :=
  ⟨bt h.bel hB, blk_next h.box hB, h.own.below hB, h.ge⟩
theorem RtO.set {w2 wr : World} {ob : Nat} {cs : Array Value} {T : Tab} {vs : List Value} {u1 u2 u3 : Value} (h : RtO w2 wr ob cs T vs u1 u2 u3) (i : Nat) (x : Value) : RtO w2 (wr.setCell ⟨ob, i, none⟩ x) ob (cs.setIfInBounds i x) T vs u1 u2 u3 :=
  ⟨h.bel.setCell h.ge _, heap_setCell_same _ _ _ _ _ _ h.box,
    ⟨ownsRow_setCell_other h.own.1 (own_ne_blk h.own.1 h.box (by decide)) _, ownsRow_setCell_other h.own.2.1 (own_ne_blk h.own.2.1 h.box (by decide)) _, h.own.2.2.1.setBox h.box (by decide) i x, ownsRow_setCell_other h.own.2.2.2.1 (own_ne_blk h.own.2.2.2.1 h.box (by decide)) _, h.own.2.2.2.2⟩, h.ge⟩
/-- A row is appended. -/
theorem RtO.pushR {w2 wr w' : World} {ob lo : Nat} {cs : Array Value} {T : Tab} {vs : List Value} {u1 u2 u3 u2' v : Value} {r : List Int} (h : RtO w2 wr ob cs T vs u1 u2 u3) (hv : wr.ownsRow w2.heap.size 3 1 v r.length (intCells r))
    (h1 : ∀ (j : Nat) x g, vs[j]? = some x → x.ownBlock = some g → g < lo) (h2 : ∀ g, v.ownBlock = some g → lo ≤ g) (h3 : ∀ g, u3.ownBlock = some g → g < lo)
    (hg : wr.grownBy w' u2.ownBlock) (ho' : w'.ownsRow w2.heap.size 26 1 u2' (T.rs.length + 1) (vs ++ [v])) : RtO w2 w' ob cs ⟨T.ns, T.y, T.rs ++ [r], T.ys⟩ (vs ++ [v]) u1 u2' u3 := by
  have hT : 3 ≠ 26 := by decide
  have hT2 : 9 ≠ 26 := by decide
  have hT3 : 26 ≠ 28 := by decide
  have hu : w'.ownsRow w2.heap.size 3 1 v (intCells r).length (intCells r) := by
    rw [intCells_len]
    exact owns_keep hv h.own.2.1 hT hg
  refine ⟨h.bel.grown hg h.bel.size (fun k hk => (h.own.2.1.lt k hk).1), ?_, ⟨owns_keep h.own.1 h.own.2.1 hT2 hg, ?_, ?_, owns_keep h.own.2.2.2.1 h.own.2.1 hT hg, ?_⟩, h.ge⟩
  · rw [hg.block _ (blk_lt h.box) (fun e => cell_apP h.box h.own.2.1 hT3 e.symm)]
    exact h.box
  · show w'.ownsRow w2.heap.size 26 1 u2' (T.rs ++ [r]).length (vs ++ [v])
    rw [List.length_append]
    exact ho'
  · show RowsOwn w' w2.heap.size 3 (vs ++ [v]) ((T.rs ++ [r]).map intCells)
    rw [List.map_append]
    exact (h.own.2.2.1.outer h.own.2.1 hT hg).snoc (lo := lo) hu h1 h2
  · intro j u g hu hb hb3
    have hlt := h3 g hb3
    rcases Nat.lt_trichotomy j vs.length with hj | hj | hj
    · rw [List.getElem?_append_left hj] at hu
      exact h.own.2.2.2.2 j u g hu hb hb3
    · subst hj
      rw [List.getElem?_append_right (Nat.le_refl _), Nat.sub_self] at hu
      obtain rfl : v = u := by simpa using hu
      have := h2 g hb
      omega
    · rw [List.getElem?_eq_none (by simp; omega)] at hu
      cases hu
/-- A target's number is appended. -/
theorem RtO.pushY {w2 wr w' : World} {ob : Nat} {cs : Array Value} {T : Tab} {vs : List Value} {u1 u2 u3 : Value} {g3 n3 c3 : Nat} {x : Int} (h : RtO w2 wr ob cs T vs u1 u2 u3) (hg : wr.grownBy w' u3.ownBlock)
    (ho' : w'.ownsRow w2.heap.size 3 1 (.slice (some ⟨g3, 0, none⟩) n3 c3) (T.ys.length + 1) (intCells T.ys ++ [.int .i64 x])) (hat : u3.ownBlock = some g3 ∨ wr.heap.size ≤ g3) : RtO w2 w' ob cs ⟨T.ns, T.y, T.rs, T.ys ++ [x]⟩ vs u1 u2 (.slice (some ⟨g3, 0, none⟩) n3 c3) := by
  have hT : 26 ≠ 3 := by decide
  have hT2 : 9 ≠ 3 := by decide
  have hT3 : 3 ≠ 28 := by decide
  refine ⟨h.bel.grown hg h.bel.size (fun k hk => (h.own.2.2.2.1.lt k hk).1), ?_, ⟨owns_keep h.own.1 h.own.2.2.2.1 hT2 hg, owns_keep h.own.2.1 h.own.2.2.2.1 hT hg, ?_, ?_, ?_⟩, h.ge⟩
  · rw [hg.block _ (blk_lt h.box) (fun e => cell_apP h.box h.own.2.2.2.1 hT3 e.symm)]
    exact h.box
  · exact h.own.2.2.1.kept hg (fun j u g hu hb e => h.own.2.2.2.2 j u g hu hb e)
  · exact int_row9 ho'
  · intro j u g hu hb e
    simp only [Value.ownBlock, Option.some.injEq] at e
    subst e
    rcases hat with hat | hat
    · exact h.own.2.2.2.2 j u _ hu hb hat
    · have := (h.own.2.2.1.lt hu hb).2
      omega
/-- The same beside a row that is being read. -/
structure RrS (w2 wr : World) (ob lo : Nat) (cs : Array Value) (T : Tab) (vs : List Value) (u1 u2 u3 vr : Value) (row : List Int) : Prop where
  st : RtO w2 wr ob cs T vs u1 u2 u3
  row : wr.ownsRow lo 3 1 vr row.length (intCells row)
  le : w2.heap.size ≤ lo
  hi : lo ≤ wr.heap.size
  l1 : ∀ (j : Nat) x g, vs[j]? = some x → x.ownBlock = some g → g < lo
  l3 : ∀ g, u3.ownBlock = some g → g < lo
theorem RrS.next {w2 wr w' : World} {ob lo : Nat} {cs : Array Value} {T : Tab} {vs : List Value} {u1 u2 u3 vr : Value} {row : List Int} (h : RrS w2 wr ob lo cs T vs u1 u2 u3 vr row) (hB : Below wr.heap.size wr w') : RrS w2 w' ob lo cs T vs u1 u2 u3 vr row :=
  ⟨h.st.next hB, owns_bl h.row hB, h.le, Nat.le_trans h.hi hB.size, h.l1, h.l3⟩
theorem RtO.start {w2 wr : World} {ob : Nat} {cs : Array Value} {T : Tab} {vs : List Value} {u1 u2 u3 : Value} (h : RtO w2 wr ob cs T vs u1 u2 u3) : RrS w2 (wr.alloc (.cells #[] 3)) ob wr.heap.size cs T vs u1 u2 u3 (.slice (some ⟨wr.heap.size, 0, none⟩) 0 0) [] :=
  ⟨h.next (bl_al _ _), World.ownsRow_made wr #[] 0 (Nat.le_refl _) (by unfold maxLen; omega) (by simp), h.bel.size, (bl_al wr _).size, fun j x g hx hb => (h.own.2.2.1.lt hx hb).2, fun g hb => (h.own.2.2.2.1.lt g hb).2⟩
theorem RrS.app {w2 wr w' : World} {ob lo : Nat} {cs : Array Value} {T : Tab} {vs : List Value} {u1 u2 u3 vr vr' : Value} {row : List Int} {x : Int} (h : RrS w2 wr ob lo cs T vs u1 u2 u3 vr row) (hg : wr.grownBy w' vr.ownBlock) (ho' : w'.ownsRow lo 3 1 vr' (row.length + 1) (intCells row ++ [.int .i64 x])) : RrS w2 w' ob lo cs T vs u1 u2 u3 vr' (row ++ [x]) := by
  have hT : 26 ≠ 3 := by decide
  have hT2 : 9 ≠ 3 := by decide
  have hT3 : 3 ≠ 28 := by decide
  have hs := h.st
  refine ⟨⟨hs.bel.grown hg hs.bel.size (fun k hk => Nat.le_trans h.le (h.row.lt k hk).1), ?_, ⟨owns_keep hs.own.1 h.row hT2 hg, owns_keep hs.own.2.1 h.row hT hg, hs.own.2.2.1.kept hg (fun j u g hu hb e => ?_), owns_far hs.own.2.2.2.1 hg (fun g e e3 => ?_), hs.own.2.2.2.2⟩, hs.ge⟩, int_row9 ho', h.le, Nat.le_trans h.hi hg.size, h.l1, h.l3⟩
  · rw [hg.block _ (blk_lt hs.box) (fun e => cell_apP hs.box h.row hT3 e.symm)]
    exact hs.box
  · have := h.l1 j u g hu hb
    have := (h.row.lt g e).1
    omega
  · have := h.l3 g e3
    have := (h.row.lt g e).1
    omega
/-- A block that holds no part of a table. -/
structure TabNe (p : Nat) (vs : List Value) (u1 u2 u3 : Value) : Prop where
  n1 : u1.ownBlock ≠ some p
  n2 : u2.ownBlock ≠ some p
  n3 : u3.ownBlock ≠ some p
  nv : ∀ (j : Nat) u, vs[j]? = some u → u.ownBlock ≠ some p
theorem TabOwn.ne {w : World} {base p : Nat} {T : Tab} {vs : List Value} {u1 u2 u3 : Value} {cs : Array Value} {T' : TypeId} (h : TabOwn w base T vs u1 u2 u3) (hb : w.heap[p]? = some (.cells cs T' (0, 0))) (e1 : 9 ≠ T') (e2 : 26 ≠ T') (e3 : 3 ≠ T') : TabNe p vs u1 u2 u3 := by
  refine ⟨own_ne_blk h.1 hb e1, own_ne_blk h.2.1 hb e2, own_ne_blk h.2.2.2.1 hb e3, fun j u hu => ?_⟩
  have hj := (List.getElem?_eq_some_iff.1 hu).1
  have hC : ∃ c, (T.rs.map intCells)[j]? = some c := ⟨_, List.getElem?_eq_getElem (by rw [← h.2.2.1.1]; exact hj)⟩
  obtain ⟨c, hc⟩ := hC
  exact own_ne_blk (h.2.2.1.2.1 j u c hu hc) hb e3
theorem TabOwn.setN {w : World} {base p : Nat} {T : Tab} {vs : List Value} {u1 u2 u3 : Value} (h : TabOwn w base T vs u1 u2 u3) (ne : TabNe p vs u1 u2 u3) (i : Nat) (x : Value) : TabOwn (w.setCell ⟨p, i, none⟩ x) base T vs u1 u2 u3 :=
  ⟨ownsRow_setCell_other h.1 ne.n1 _, ownsRow_setCell_other h.2.1 ne.n2 _, ⟨h.2.2.1.1, fun j u c hu hc => ownsRow_setCell_other (h.2.2.1.2.1 j u c hu hc) (ne.nv j u hu) _, h.2.2.1.2.2⟩, ownsRow_setCell_other h.2.2.2.1 ne.n3 _, h.2.2.2.2⟩
end Go.Proofs.Yticeagjonfifbaa
