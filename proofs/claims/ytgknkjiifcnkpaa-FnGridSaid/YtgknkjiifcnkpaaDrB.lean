/-
  The draws of bent tables.
-/
import Derived.Test.YtgknkjiifcnkpaaDrQ
import Derived.Test.YtgknkjiifcnkpaaPk1
import Derived.Deep.AppendLies
import Derived.Deep.LoopGhost
import Derived.Deep.DeepCutAuto
namespace Go.Proofs.Ytgknkjiifcnkpaa
open Go.RowKit

/-- How small a drawn table is. -/
def SmallB (T : Tab) : Prop := T.ns.length ≤ 1024 ∧ T.rs.length ≤ 1024 ∧ (∀ r ∈ T.rs, r.length ≤ 1024) ∧ T.ys.length ≤ 1024 ∧ (∀ p ∈ T.ns, p.length ≤ 1024) ∧ T.y.length ≤ 1024
theorem okT_smallB {T : Tab} (h : okT T = true) : SmallB T ∧ (1 ≤ T.ns.length ∧ T.ns.length ≤ 4) ∧ (1 ≤ T.rs.length ∧ T.rs.length ≤ 40) ∧ T.ys.length = T.rs.length ∧ (∀ r ∈ T.rs, r.length = T.ns.length) := by
  have ho := okT_head h
  have hr : ∀ r ∈ T.rs, r.length = T.ns.length := fun r hr => by
    obtain ⟨j, hj⟩ := List.getElem?_of_mem hr
    have k := (ho.2.2.2.2.2.2 j (List.getElem?_eq_some_iff.1 hj).1).1
    rwa [List.getD_eq_getElem?_getD, hj] at k
  refine ⟨⟨by omega, by omega, fun r h1 => by rw [hr r h1]; omega, by omega, fun p hp => ?_, ?_⟩, ho.1, ho.2.2.1, ho.2.2.2.1, hr⟩
  · obtain ⟨j, hj⟩ := List.getElem?_of_mem hp
    have k := (ho.2.2.2.2.1 j (List.getElem?_eq_some_iff.1 hj).1).1
    rw [List.getD_eq_getElem?_getD, hj] at k
    have := nameB_len k
    simp only [Option.getD_some] at this
    omega
  · have := nameB_len ho.2.1
    omega
/-- The way to a table that is to be bent. -/
theorem drT_of {W w w2 : World} {p : Nat} {T : Tab} {vs : List Value} {u1 u2 u3 : Value} (hc : Cur W w2 p) (hg : w.grownBy w2 (some p)) (ho : TabOwn w2 w.heap.size T vs u1 u2 u3) (hx : w2.heap[w.heap.size]? = some (.cells #[.slice none 0 0, .string ⟨#[]⟩, .slice none 0 0, .slice none 0 0] 34 (0, 0))) (hs : W.heap.size ≤ w.heap.size) :
    DrT W w (w2.alloc (.cells #[u1, .string ⟨T.y.toArray⟩, u2, u3] 34)) p w.heap.size w2.heap.size #[u1, .string ⟨T.y.toArray⟩, u2, u3] T vs u1 u2 u3 := by
  refine ⟨hc.alloc _, grownBy_trans hg (grow_al _ _ _), alloc_blk w2 _ _, ho.below (bl_al _ _), hg.size, blk_al hx _, Nat.le_refl _, ?_, hs⟩
  have := blk_lt hx
  omega
theorem TabOwn.monoT {w : World} {b b2 : Nat} {T : Tab} {vs : List Value} {u1 u2 u3 : Value} (h : TabOwn w b T vs u1 u2 u3) (hb : b2 ≤ b) : TabOwn w b2 T vs u1 u2 u3 :=
  ⟨World.ownsRow.mono h.1 hb, World.ownsRow.mono h.2.1 hb, h.2.2.1.mono hb, World.ownsRow.mono h.2.2.2.1 hb, h.2.2.2.2⟩
theorem owns_drawT {W wr w' : World} {p b n : Nat} {T : TypeId} {v : Value} {xs : List Value} (h : wr.ownsRow b T 1 v n xs) (hT : T ≠ 80) (hc : Cur W wr p) (hg : wr.grownBy w' (some p)) : w'.ownsRow b T 1 v n xs := by
  obtain ⟨cs, hb⟩ := hc.blkT
  exact owns_far h hg (fun g e => by obtain rfl := Option.some.inj e; exact own_ne_blk h hb hT)
theorem cell_setB {w : World} {g n ob k : Nat} {u v : Value} (h : w.cell? ⟨g, n, none⟩ = some u) (hne : g ≠ ob) : (w.setCell ⟨ob, k, none⟩ v).cell? ⟨g, n, none⟩ = some u := (World.cell?_setCell_far w ⟨ob, k, none⟩ ⟨g, n, none⟩ v (fun e => hne e.symm)).trans h
theorem own_open {w : World} {base n g c i : Nat} {T : TypeId} {xs : List Value} (h : w.ownsRow base T 1 (.slice (some ⟨g, 0, none⟩) n c) n xs) (hi : i < n) : (∃ x, w.cell? ⟨g, i, none⟩ = some x) ∧ w.frozen? ⟨g, i, none⟩ = false ∧ g < w.heap.size := by
  have hx := h.1
  have hc := h.cellAt i (by omega)
  rcases h.2 with ⟨h, _⟩ | ⟨g1, c1, cur, h, h2, h3, _⟩
  · cases h
  · injection h with e1 _ _
    injection e1 with e1
    injection e1 with e1 _ _
    subst e1
    exact ⟨⟨_, hc.trans (List.getElem?_eq_getElem (by omega))⟩, free_blk h3 i, blk_lt h3⟩
/-- A cell of a row is written. -/
theorem own_put {w : World} {base n g c i : Nat} {T : TypeId} {x : Value} {xs : List Value} (h : w.ownsRow base T 1 (.slice (some ⟨g, 0, none⟩) n c) n xs) : (w.setCell ⟨g, i, none⟩ x).ownsRow base T 1 (.slice (some ⟨g, 0, none⟩) n c) n (xs.set i x) := by
  have hx := h.1
  rcases h.2 with ⟨h, _⟩ | ⟨g1, c1, cur, h, h2, h3, h4, h5, h6, h7⟩
  · cases h
  · injection h with e1 e2 e3
    injection e1 with e1
    injection e1 with e1 _ _
    subst e1
    refine ⟨by rw [List.length_set]; exact hx, Or.inr ⟨g, c1, cur.setIfInBounds i x, by rw [e3], h2, heap_setCell_same _ _ _ _ _ _ h3, h4, h5, by rw [Array.size_setIfInBounds]; exact h6, ?_⟩⟩
    rw [Array.toList_setIfInBounds, List.take_set, h7]
/-- A store into what a table owns: the rest of the state. -/
theorem DrT.store {W w0 wr : World} {p rb ob g : Nat} {cs : Array Value} {T T' : Tab} {vs vs' : List Value} {u1 u2 u3 : Value} {i : Nat} {x : Value} (h : DrT W w0 wr p rb ob cs T vs u1 u2 u3) (hge : w0.heap.size ≤ g) (h1 : g ≠ p) (h2 : g ≠ ob) (h3 : g ≠ rb) (ho : TabOwn (wr.setCell ⟨g, i, none⟩ x) w0.heap.size T' vs' u1 u2 u3) : DrT W w0 (wr.setCell ⟨g, i, none⟩ x) p rb ob cs T' vs' u1 u2 u3 := by
  have hg : wr.grownBy (wr.setCell ⟨g, i, none⟩ x) (some g) := grownBy_set _ _ _ _
  have hgk : ∀ k, some g = some k → w0.heap.size ≤ k := fun k hk => by
    obtain rfl := Option.some.inj hk
    exact hge
  refine ⟨h.cur.grownT hg (fun k hk => ⟨Nat.le_trans h.hW (hgk k hk), fun e => h1 ((Option.some.inj hk).trans e)⟩), grownBy_farT h.grown hg hgk, ?_, ho, h.oge, ?_, h.rge, h.ne, h.hW⟩
  · rw [hg.block ob (blk_lt h.box) (fun e => h2 (Option.some.inj e).symm)]
    exact h.box
  · rw [hg.block rb (blk_lt h.res) (fun e => h3 (Option.some.inj e).symm)]
    exact h.res
/-- The block of a row is none of the boxes. -/
theorem DrT.apart {W w0 wr : World} {p rb ob g n c : Nat} {cs : Array Value} {T : Tab} {vs xs : List Value} {u1 u2 u3 : Value} {E : TypeId} (h : DrT W w0 wr p rb ob cs T vs u1 u2 u3) (ho : wr.ownsRow w0.heap.size E 1 (.slice (some ⟨g, 0, none⟩) n c) n xs) (e1 : E ≠ 80) (e2 : E ≠ 34) : w0.heap.size ≤ g ∧ g ≠ p ∧ g ≠ ob ∧ g ≠ rb := by
  obtain ⟨cs', hb⟩ := h.cur.blkT
  exact ⟨(ho.lt g rfl).1, fun e => own_ne_blk ho hb e1 (congrArg some e), fun e => own_ne_blk ho h.box e2 (congrArg some e), fun e => own_ne_blk ho h.res e2 (congrArg some e)⟩
/-- A target's number is written. -/
theorem DrT.putY {W w0 wr : World} {p rb ob g c k : Nat} {cs : Array Value} {T : Tab} {vs : List Value} {u1 u2 : Value} (h : DrT W w0 wr p rb ob cs T vs u1 u2 (.slice (some ⟨g, 0, none⟩) T.ys.length c)) (z : Int) : DrT W w0 (wr.setCell ⟨g, k, none⟩ (.int .i64 z)) p rb ob cs ⟨T.ns, T.y, T.rs, T.ys.set k z⟩ vs u1 u2 (.slice (some ⟨g, 0, none⟩) T.ys.length c) := by
  have ho := h.own.2.2.2.1
  obtain ⟨a0, a1, a2, a3⟩ := h.apart ho (by decide) (by decide)
  have hT : 3 ≠ 9 := by decide
  have hT2 : 3 ≠ 24 := by decide
  refine h.store a0 a1 a2 a3 ⟨ownsRow_setCell_other h.own.1 (fun e => owns_apart ho h.own.1 hT g rfl e) _, ownsRow_setCell_other h.own.2.1 (fun e => owns_apart ho h.own.2.1 hT2 g rfl e) _, h.own.2.2.1.kept (grownBy_set _ g _ _) (fun j u q hu hb e => h.own.2.2.2.2 j u q hu hb e), ?_, h.own.2.2.2.2⟩
  show World.ownsRow _ _ _ 1 _ (T.ys.set k z).length (intCells (T.ys.set k z))
  rw [List.length_set, show intCells (T.ys.set k z) = (intCells T.ys).set k (.int .i64 z) by unfold intCells; rw [List.map_set]]
  exact own_put ho
/-- The first name is written. -/
theorem DrT.putN {W w0 wr : World} {p rb ob g c k : Nat} {cs : Array Value} {T : Tab} {vs : List Value} {u2 u3 : Value} (h : DrT W w0 wr p rb ob cs T vs (.slice (some ⟨g, 0, none⟩) T.ns.length c) u2 u3) (f : List UInt8) : DrT W w0 (wr.setCell ⟨g, k, none⟩ (.string ⟨f.toArray⟩)) p rb ob cs ⟨T.ns.set k f, T.y, T.rs, T.ys⟩ vs (.slice (some ⟨g, 0, none⟩) T.ns.length c) u2 u3 := by
  have ho := h.own.1
  obtain ⟨a0, a1, a2, a3⟩ := h.apart ho (by decide) (by decide)
  have hT : 9 ≠ 3 := by decide
  have hT2 : 9 ≠ 24 := by decide
  refine h.store a0 a1 a2 a3 ⟨?_, ownsRow_setCell_other h.own.2.1 (fun e => owns_apart ho h.own.2.1 hT2 g rfl e) _, h.own.2.2.1.outer ho (Ne.symm hT) (grownBy_set _ g _ _), ownsRow_setCell_other h.own.2.2.2.1 (fun e => owns_apart ho h.own.2.2.2.1 hT g rfl e) _, h.own.2.2.2.2⟩
  show World.ownsRow _ _ _ 1 _ (T.ns.set k f).length (strCells (T.ns.set k f))
  rw [List.length_set, show strCells (T.ns.set k f) = (strCells T.ns).set k (.string ⟨f.toArray⟩) by unfold strCells; rw [List.map_set]]
  exact own_put ho
/-- The first number of a row is written. -/
theorem DrT.putR {W w0 wr : World} {p rb ob g c k n : Nat} {cs : Array Value} {T : Tab} {vs : List Value} {u1 u2 u3 : Value} {r : List Int} (h : DrT W w0 wr p rb ob cs T vs u1 u2 u3) (hu : vs[k]? = some (.slice (some ⟨g, 0, none⟩) n c)) (hr : wr.ownsRow w0.heap.size 3 1 (.slice (some ⟨g, 0, none⟩) n c) n (intCells r)) (hn : r.length = n) (z : Int) : DrT W w0 (wr.setCell ⟨g, 0, none⟩ (.int .i64 z)) p rb ob cs ⟨T.ns, T.y, T.rs.set k (r.set 0 z), T.ys⟩ vs u1 u2 u3 := by
  obtain ⟨a0, a1, a2, a3⟩ := h.apart hr (by decide) (by decide)
  have hT : 3 ≠ 9 := by decide
  have hT2 : 3 ≠ 24 := by decide
  refine h.store a0 a1 a2 a3 ⟨ownsRow_setCell_other h.own.1 (fun e => owns_apart hr h.own.1 hT g rfl e) _, ?_, ?_, ownsRow_setCell_other h.own.2.2.2.1 (fun e => h.own.2.2.2.2 k _ g hu rfl e) _, h.own.2.2.2.2⟩
  · show World.ownsRow _ _ _ 1 _ (T.rs.set k (r.set 0 z)).length _
    rw [List.length_set]
    exact ownsRow_setCell_other h.own.2.1 (fun e => owns_apart hr h.own.2.1 hT2 g rfl e) _
  · show RowsOwn _ _ _ vs ((T.rs.set k (r.set 0 z)).map intCells)
    rw [List.map_set]
    refine h.own.2.2.1.put hu (grownBy_set _ g _ _) ?_
    rw [show intCells (r.set 0 z) = (intCells r).set 0 (.int .i64 z) by unfold intCells; rw [List.map_set], List.length_set, intCells_len, hn]
    exact own_put hr
/-- One of the rows is replaced: what is kept of the others. -/
theorem rows_setR {w w' : World} {base k : Nat} {vs : List Value} {C : List (List Value)} {x : Value} {c : List Value} (h : RowsOwn w base 3 vs C) (ho : ∀ (j : Nat) u d, j ≠ k → vs[j]? = some u → C[j]? = some d → w.ownsRow base 3 1 u d.length d → w'.ownsRow base 3 1 u d.length d) (hx : w'.ownsRow base 3 1 x c.length c) (h1 : ∀ (j : Nat) u g, j ≠ k → vs[j]? = some u → u.ownBlock = some g → x.ownBlock ≠ some g) : RowsOwn w' base 3 (vs.set k x) (C.set k c) := by
  refine ⟨by simp [h.1], fun j u d hu hd => ?_, fun i j u v g hij hu hv hub hvb => ?_⟩
  · by_cases e : k = j
    · subst e
      have hl := (List.getElem?_eq_some_iff.1 hu).1
      have hl2 := (List.getElem?_eq_some_iff.1 hd).1
      rw [List.length_set] at hl hl2
      rw [List.getElem?_set_self hl] at hu
      rw [List.getElem?_set_self hl2] at hd
      obtain rfl := Option.some.inj hu
      obtain rfl := Option.some.inj hd
      exact hx
    · rw [List.getElem?_set_ne e] at hu hd
      exact ho j u d (Ne.symm e) hu hd (h.2.1 j u d hu hd)
  · by_cases e : k = i
    · subst e
      have hl := (List.getElem?_eq_some_iff.1 hu).1
      rw [List.length_set] at hl
      rw [List.getElem?_set_self hl] at hu
      obtain rfl := Option.some.inj hu
      rw [List.getElem?_set_ne hij] at hv
      exact h1 j v g (Ne.symm hij) hv hvb hub
    · rw [List.getElem?_set_ne e] at hu
      by_cases e2 : k = j
      · subst e2
        have hl := (List.getElem?_eq_some_iff.1 hv).1
        rw [List.length_set] at hl
        rw [List.getElem?_set_self hl] at hv
        obtain rfl := Option.some.inj hv
        exact h1 i u g (Ne.symm e) hu hub hvb
      · rw [List.getElem?_set_ne e2] at hv
        exact h.2.2 i j u v g hij hu hv hub hvb
/-- A row of the call's own is put in a row's place. -/
theorem DrT.setR {W w0 wr : World} {p rb ob g c k : Nat} {cs : Array Value} {T : Tab} {vs : List Value} {u1 u3 x : Value} {r : List Int} (h : DrT W w0 wr p rb ob cs T vs u1 (.slice (some ⟨g, 0, none⟩) T.rs.length c) u3) (hx : wr.ownsRow w0.heap.size 3 1 x r.length (intCells r)) (h1 : ∀ (j : Nat) u q, j ≠ k → vs[j]? = some u → u.ownBlock = some q → x.ownBlock ≠ some q) (h3 : ∀ q, x.ownBlock = some q → u3.ownBlock ≠ some q) :
    DrT W w0 (wr.setCell ⟨g, k, none⟩ x) p rb ob cs ⟨T.ns, T.y, T.rs.set k r, T.ys⟩ (vs.set k x) u1 (.slice (some ⟨g, 0, none⟩) T.rs.length c) u3 := by
  have hr := h.own.2.1
  obtain ⟨a0, a1, a2, a3⟩ := h.apart hr (by decide) (by decide)
  have hT : 24 ≠ 9 := by decide
  have hT2 : 24 ≠ 3 := by decide
  refine h.store a0 a1 a2 a3 ⟨ownsRow_setCell_other h.own.1 (fun e => owns_apart hr h.own.1 hT g rfl e) _, ?_, ?_, ownsRow_setCell_other h.own.2.2.2.1 (fun e => owns_apart hr h.own.2.2.2.1 hT2 g rfl e) _, fun j u q hu hub hu3 => ?_⟩
  · show World.ownsRow _ _ _ 1 _ (T.rs.set k r).length (vs.set k x)
    rw [List.length_set]
    exact own_put hr
  · show RowsOwn _ _ _ (vs.set k x) ((T.rs.set k r).map intCells)
    rw [List.map_set]
    refine rows_setR h.own.2.2.1 (fun j u d _ _ _ ho => ownsRow_setCell_other ho (fun e => owns_apart hr ho hT2 g rfl e) _) ?_ h1
    rw [intCells_len]
    exact ownsRow_setCell_other hx (fun e => owns_apart hr hx hT2 g rfl e) _
  · by_cases e : k = j
    · subst e
      have hl := (List.getElem?_eq_some_iff.1 hu).1
      rw [List.length_set] at hl
      rw [List.getElem?_set_self hl] at hu
      obtain rfl := Option.some.inj hu
      exact h3 q hub hu3
    · rw [List.getElem?_set_ne e] at hu
      exact h.own.2.2.2.2 j u q hu hub hu3
theorem row_newsB {w : World} {base g n c : Nat} {T : TypeId} {xs : List Value} (h : w.ownsRow base T 1 (.slice (some ⟨g, 0, none⟩) n c) n xs) : ∀ (j : Nat) u, xs[j]? = some u → w.cell? ((⟨g, 0, none⟩ : Addr).add j) = some u := by
  intro j u hu
  have hl := h.1
  have hj := (List.getElem?_eq_some_iff.1 hu).1
  rw [addr_addD]
  exact (h.cellAt j (by omega)).trans hu
theorem intCells_oneB (L : List Int) : ∀ u ∈ intCells L, u.oneCell' = true := by
  intro u hu
  unfold intCells at hu
  obtain ⟨x, _, rfl⟩ := List.mem_map.1 hu
  rfl
theorem news_blkB {w : World} {b : Nat} {T : TypeId} {x : Value} (h : w.heap[b]? = some (.cells #[x] T (0, 0))) : ∀ (j : Nat) u, [x][j]? = some u → w.cell? ((⟨b, 0, none⟩ : Addr).add j) = some u := by
  intro j u hu
  rw [addr_addD]
  have k := cell_blk h j
  rw [k]
  simpa using hu
/-- The row that is drawn is another one. -/
theorem DrR.toB {W w0 wr w' : World} {p rb ob lo : Nat} {cs : Array Value} {T : Tab} {vs : List Value} {u1 u2 u3 vr vr' : Value} {row row' : List Int} (h : DrR W w0 wr p rb ob lo cs T vs u1 u2 u3 vr row) (hg : wr.grownBy w' vr.ownBlock) (ho' : w'.ownsRow lo 3 1 vr' row'.length (intCells row')) : DrR W w0 w' p rb ob lo cs T vs u1 u2 u3 vr' row' := by
  obtain ⟨cs', hb⟩ := h.cur.blkT
  have hT : 3 ≠ 80 := by decide
  have hT2 : 3 ≠ 34 := by decide
  have hIS : 3 ≠ 9 := by decide
  have hIL : 3 ≠ 24 := by decide
  have hlo : ∀ k, vr.ownBlock = some k → w0.heap.size ≤ k := fun k hk => Nat.le_trans h.le (h.row.lt k hk).1
  have hblk : ∀ (b : Nat) (ds : Array Value), wr.heap[b]? = some (.cells ds 34 (0, 0)) → w'.heap[b]? = some (.cells ds 34 (0, 0)) := fun b ds hx => by
    rw [hg.block b (blk_lt hx) (fun e => own_ne_blk h.row hx hT2 e.symm)]
    exact hx
  have far : ∀ {E : TypeId} {v : Value} {n : Nat} {xs : List Value}, wr.ownsRow w0.heap.size E 1 v n xs → 3 ≠ E → w'.ownsRow w0.heap.size E 1 v n xs := fun ho hE => owns_far ho hg (fun q e e2 => owns_apart h.row ho hE q e e2)
  refine ⟨⟨h.cur.grownT hg (fun k hk => ⟨Nat.le_trans h.st.hW (hlo k hk), fun e => own_ne_blk h.row hb hT (e ▸ hk)⟩), grownBy_farT h.st.grown hg hlo, hblk ob cs h.st.box, ⟨far h.st.own.1 hIS, far h.st.own.2.1 hIL, h.st.own.2.2.1.kept hg (fun j u g hu hb e => ?_), owns_far h.st.own.2.2.2.1 hg (fun g e e3 => ?_), h.st.own.2.2.2.2⟩, h.st.oge, hblk rb _ h.st.res, h.st.rge, h.st.ne, h.st.hW⟩, ho', h.le, Nat.le_trans h.hi hg.size, h.l1, h.l3⟩
  · have := h.l1 j u g hu hb
    have := (h.row.lt g e).1
    omega
  · have := h.l3 g e3
    have := (h.row.lt g e).1
    omega
/-- A number is appended to a row, and the row put back in its place. -/
theorem DrT.appR {W w0 wr w' : World} {p rb ob g2 g4 n4 c2 c4 k : Nat} {cs : Array Value} {T : Tab} {vs : List Value} {u1 u3 xk : Value} {rk : List Int} {z : Int} (h : DrT W w0 wr p rb ob cs T vs u1 (.slice (some ⟨g2, 0, none⟩) T.rs.length c2) u3) (hxk : vs[k]? = some xk) (hrk : T.rs[k]? = some rk) (hg : wr.grownBy w' xk.ownBlock)
    (ho' : w'.ownsRow w0.heap.size 3 1 (.slice (some ⟨g4, 0, none⟩) n4 c4) (rk.length + 1) (intCells rk ++ [.int .i64 z])) (hat : xk.ownBlock = some g4 ∨ wr.heap.size ≤ g4) :
    DrT W w0 (w'.setCell ⟨g2, k, none⟩ (.slice (some ⟨g4, 0, none⟩) n4 c4)) p rb ob cs ⟨T.ns, T.y, T.rs.set k (rk ++ [z]), T.ys⟩ (vs.set k (.slice (some ⟨g4, 0, none⟩) n4 c4)) u1 (.slice (some ⟨g2, 0, none⟩) T.rs.length c2) u3 := by
  have hrow := h.own.2.2.1.2.1 k xk (intCells rk) hxk (by rw [List.getElem?_map, hrk]; rfl)
  have hr2 := h.own.2.1
  obtain ⟨cs', hb⟩ := h.cur.blkT
  obtain ⟨a0, a1, a2, a3⟩ := h.apart hr2 (by decide) (by decide)
  have hI1 : 3 ≠ 80 := by decide
  have hI2 : 3 ≠ 34 := by decide
  have hIS : 3 ≠ 9 := by decide
  have hIL : 3 ≠ 24 := by decide
  have hLS : 24 ≠ 9 := by decide
  have hge : ∀ q, xk.ownBlock = some q → w0.heap.size ≤ q := fun q hq => (hrow.lt q hq).1
  have hgS : w'.grownBy (w'.setCell ⟨g2, k, none⟩ (.slice (some ⟨g4, 0, none⟩) n4 c4)) (some g2) := grownBy_set _ _ _ _
  have hc1 : Cur W w' p := h.cur.grownT hg (fun q hq => ⟨Nat.le_trans h.hW (hge q hq), fun e => own_ne_blk hrow hb hI1 (e ▸ hq)⟩)
  have hc2 : Cur W (w'.setCell ⟨g2, k, none⟩ (.slice (some ⟨g4, 0, none⟩) n4 c4)) p := hc1.grownT hgS (fun q hq => by
    obtain rfl := Option.some.inj hq
    exact ⟨Nat.le_trans h.hW a0, a1⟩)
  have hg2 := grownBy_farT (grownBy_farT h.grown hg hge) hgS (fun q hq => by
    obtain rfl := Option.some.inj hq
    exact a0)
  have hblk : ∀ (b : Nat) (ds : Array Value), b ≠ g2 → wr.heap[b]? = some (.cells ds 34 (0, 0)) → (w'.setCell ⟨g2, k, none⟩ (.slice (some ⟨g4, 0, none⟩) n4 c4)).heap[b]? = some (.cells ds 34 (0, 0)) := fun b ds hne hx => by
    have h1 : w'.heap[b]? = some (.cells ds 34 (0, 0)) := by
      rw [hg.block b (blk_lt hx) (fun e => own_ne_blk hrow hx hI2 e.symm)]
      exact hx
    rw [hgS.block b (blk_lt h1) (fun e => hne (Option.some.inj e))]
    exact h1
  have far : ∀ {E : TypeId} {v : Value} {n : Nat} {xs : List Value}, wr.ownsRow w0.heap.size E 1 v n xs → 3 ≠ E → w'.ownsRow w0.heap.size E 1 v n xs := fun ho hE => owns_far ho hg (fun q e e2 => owns_apart hrow ho hE q e e2)
  have h2' := far hr2 hIL
  have off : ∀ {E : TypeId} {v : Value} {n : Nat} {xs : List Value}, w'.ownsRow w0.heap.size E 1 v n xs → 24 ≠ E → (w'.setCell ⟨g2, k, none⟩ (.slice (some ⟨g4, 0, none⟩) n4 c4)).ownsRow w0.heap.size E 1 v n xs := fun ho hE => ownsRow_setCell_other ho (fun e => owns_apart h2' ho hE g2 rfl e) _
  have h3' : w'.ownsRow w0.heap.size 3 1 u3 T.ys.length (intCells T.ys) := owns_far h.own.2.2.2.1 hg (fun q e e2 => h.own.2.2.2.2 k xk q hxk e e2)
  have n4b : ∀ (j : Nat) u q, j ≠ k → vs[j]? = some u → u.ownBlock = some q → q ≠ g4 := fun j u q hj hu hub e => by
    subst e
    rcases hat with h9 | h9
    · exact h.own.2.2.1.2.2 j k u xk q hj hu hxk hub h9
    · have := (h.own.2.2.1.lt hu hub).2
      omega
  refine ⟨hc2, hg2, hblk ob cs (Ne.symm a2) h.box, ⟨off (far h.own.1 hIS) hLS, ?_, ?_, off h3' (Ne.symm hIL), fun j u q hu hub hu3 => ?_⟩, h.oge, hblk rb _ (Ne.symm a3) h.res, h.rge, h.ne, h.hW⟩
  · show World.ownsRow _ _ _ 1 _ (T.rs.set k (rk ++ [z])).length (vs.set k _)
    rw [List.length_set]
    exact own_put h2'
  · show RowsOwn _ _ _ (vs.set k _) ((T.rs.set k (rk ++ [z])).map intCells)
    rw [List.map_set]
    refine rows_setR h.own.2.2.1 (fun j u d hj hu _ ho => off (owns_far ho hg (fun q e e2 => h.own.2.2.1.2.2 k j xk u q (Ne.symm hj) hxk hu e e2)) (Ne.symm hIL)) ?_ (fun j u q hj hu hub e => n4b j u q hj hu hub (Option.some.inj e).symm)
    rw [intCells_len, List.length_append, show intCells (rk ++ [z]) = intCells rk ++ [.int .i64 z] by unfold intCells; rw [List.map_append]; rfl]
    exact off ho' (Ne.symm hIL)
  · by_cases e : k = j
    · subst e
      have hl := (List.getElem?_eq_some_iff.1 hu).1
      rw [List.length_set] at hl
      rw [List.getElem?_set_self hl] at hu
      obtain rfl := Option.some.inj hu
      have hq : g4 = q := Option.some.inj hub
      subst hq
      rcases hat with h9 | h9
      · exact h.own.2.2.2.2 k xk g4 hxk h9 hu3
      · have := (h.own.2.2.2.1.lt g4 hu3).2
        omega
    · rw [List.getElem?_set_ne e] at hu
      exact h.own.2.2.2.2 j u q hu hub hu3
theorem DrT.reY {W w0 wr : World} {p rb ob : Nat} {cs : Array Value} {T : Tab} {vs : List Value} {u1 u2 u3 : Value} (h : DrT W w0 wr p rb ob cs T vs u1 u2 u3) (f : List UInt8) : DrT W w0 wr p rb ob cs ⟨T.ns, f, T.rs, T.ys⟩ vs u1 u2 u3 :=
  ⟨h.cur, h.grown, h.box, h.own, h.oge, h.res, h.rge, h.ne, h.hW⟩
theorem TabOwn.rowS {w : World} {base : Nat} {T : Tab} {vs : List Value} {u1 u2 u3 : Value} (h : TabOwn w base T vs u1 u2 u3) (hs : SmallB T) : TabRow w T u1 u2 u3 :=
  h.row (by have := hs.1; omega) (by have := hs.2.1; omega) (fun r hr => by have := hs.2.2.1 r hr; omega) (by have := hs.2.2.2.1; omega)
set_option maxRecDepth 100000 in
set_option maxHeartbeats 8000000 in
theorem l9Bent (W w : World) (p : Nat) (hc : Cur W w p) :
    Calls Try.prog 52 #[.pointer (some ⟨p, 0, none⟩)] w fun e w' => TabOut9 W w p SmallB e w' := by
  obtain ⟨iS, hi, hz0, hz1, hz2⟩ := info_parts infoStr
  obtain ⟨iI, gi, gz0, gz1, gz2⟩ := info_parts infoInt
  obtain ⟨iL, gj, gy0, gy1, gy2⟩ := info_parts infoSlI
  have hWw : W.heap.size ≤ w.heap.size := hc.2.1.size
  have x0 := alloc_blk w #[.slice none 0 0, .string ⟨#[]⟩, .slice none 0 0, .slice none 0 0] 34
  go_enter Try.func52, Try.ntmps52
  go_wp2_with fail
  refine (l9Right W _ p (hc.alloc _)).mono ?_
  rintro e w1 ⟨T, vs, u1, u2, u3, rfl, hown, ⟨hok, _⟩, hc1, hg1⟩
  obtain ⟨hsm, hns, hrs, hyl, hrl⟩ := okT_smallB hok
  obtain ⟨a1, c1, rfl⟩ := owns_form hown.1
  obtain ⟨a2, c2, rfl⟩ := owns_form hown.2.1
  obtain ⟨a3, c3, rfl⟩ := owns_form hown.2.2.2.1
  obtain ⟨cs0, hb0⟩ := (hc.alloc (.cells #[.slice none 0 0, .string ⟨#[]⟩, .slice none 0 0, .slice none 0 0] 34)).blkT
  have x1 := blk_far x0 hb0 (by decide) hg1
  have HD0 := Lib.hid (drT_of hc1 (grownBy_trans (grow_al w (.cells #[.slice none 0 0, .string ⟨#[]⟩, .slice none 0 0, .slice none 0 0] 34) (some p)) hg1) (hown.monoT (by simp)) x1 hWw)
  obtain ⟨ob, hob⟩ : ∃ b, w1.heap.size = b := ⟨_, rfl⟩
  have HSM := Lib.hid hsm
  have HRL := Lib.hid hrl
  have HYL := Lib.hid hyl
  have HNS0 := Lib.hid hns
  have HRS0 := Lib.hid hrs
  have p2 := cell_blk HD0.out.box 2
  have l2 := blk_lt HD0.out.box
  clear hown hok hc1 hb0 hg1 x0 x1 hc hsm hrl hyl
  go_wp2_with fail
  refine (l1Below W _ p T.rs.length (by omega) (by omega) HD0.out.cur).mono ?_
  rintro e w2 ⟨⟨k, hk, rfl⟩, hc2, hg2⟩
  have HD2 := Lib.hid (HD0.out.draw hc2 hg2)
  rw [hob] at HD2
  clear hc2 hg2 HD0 p2 l2
  go_wp2_with fail
  refine (l1Below W _ p 14 (by omega) (by omega) HD2.out.cur).mono ?_
  rintro e w3 ⟨⟨g, hg, rfl⟩, hc3, hg3⟩
  have HD3 := Lib.hid (HD2.out.draw hc3 hg3)
  clear hc3 hg3 HD2 hob
  by_cases hg8 : 8 ≤ g
  · have n0 : ¬ (g : Int) = 0 := by omega
    have n1 : ¬ (g : Int) = 1 := by omega
    have n2 : ¬ (g : Int) = 2 := by omega
    have n3 : ¬ (g : Int) = 3 := by omega
    have n4 : ¬ (g : Int) = 4 := by omega
    have n5 : ¬ (g : Int) = 5 := by omega
    have n6 : ¬ (g : Int) = 6 := by omega
    have n7 : ¬ (g : Int) = 7 := by omega
    have p0 := cell_blk HD3.out.res 0
    have p1 := cell_blk HD3.out.res 1
    have p2 := cell_blk HD3.out.res 2
    have p3 := cell_blk HD3.out.res 3
    have f0 := free_blk HD3.out.res 0
    have f1 := free_blk HD3.out.res 1
    have f2 := free_blk HD3.out.res 2
    have f3 := free_blk HD3.out.res 3
    have lp := blk_lt HD3.out.res
    have q0 := cell_blk HD3.out.box 0
    have q1 := cell_blk HD3.out.box 1
    have q2 := cell_blk HD3.out.box 2
    have q3 := cell_blk HD3.out.box 3
    have lq := blk_lt HD3.out.box
    have e0 := free_blk HD3.out.box 0
    have e1 := free_blk HD3.out.box 1
    have e2 := free_blk HD3.out.box 2
    have e3 := free_blk HD3.out.box 3
    have hne := HD3.out.ne
    have HEX := Lib.hid (HD3.out.exit (.slice a1 T.ns.length c1) (.string ⟨T.y.toArray⟩) (.slice a2 T.rs.length c2) (.slice a3 T.ys.length c3))
    go_wp2_with fail
    refine bodyPost_ret (v := .agg #[(.slice a1 T.ns.length c1), (.string ⟨T.y.toArray⟩), (.slice a2 T.rs.length c2), (.slice a3 T.ys.length c3)]) ?_ rfl ⟨T, _, (.slice a1 T.ns.length c1), (.slice a2 T.rs.length c2), (.slice a3 T.ys.length c3), rfl, HEX.out.1, HSM.out, HEX.out.2⟩
    rw [results_oneD rfl]
    go_simp
  · rcases (by omega : g = 0 ∨ g = 1 ∨ g = 2 ∨ g = 3 ∨ g = 4 ∨ g = 5 ∨ g = 6 ∨ g = 7) with rfl | rfl | rfl | rfl | rfl | rfl | rfl | rfl
    · have hoy := HD3.out.own.1
      obtain ⟨gn, cy, hv⟩ := Go.Joins.ownsRow_form hoy (by omega)
      injection hv with hv hv2 hv3
      subst hv
      clear hv2 hv3 hoy
      have hns0 : 0 < T.ns.length := by omega
      have hns1 : (0 : Int) < T.ns.length := by omega
      have hS0 : (fun w' => DrT W w w' p w.heap.size ob #[.slice (some ⟨gn, 0, none⟩) T.ns.length c1, .string ⟨T.y.toArray⟩, .slice a2 T.rs.length c2, .slice a3 T.ys.length c3] T vs (.slice (some ⟨gn, 0, none⟩) T.ns.length c1) (.slice a2 T.rs.length c2) (.slice a3 T.ys.length c3)) w3.drew ∧ (fun w' => w'.cell? ⟨ob, 0, none⟩ = some (.slice (some ⟨gn, 0, none⟩) T.ns.length c1)) w3.drew := ⟨HD3.out.draw HD3.out.cur.drew (grownBy_drew (grownBy_refl _ _)), cell_blk HD3.out.box 0⟩
      have hne9 : w3.heap.size ≠ p := by have := HD3.out.cur.lt; omega
      go_upto_region 5 with fail
      refine wp_region_noPanic ?_
      refine wp_region_K (S := (fun w' => DrT W w w' p w.heap.size ob #[.slice (some ⟨gn, 0, none⟩) T.ns.length c1, .string ⟨T.y.toArray⟩, .slice a2 T.rs.length c2, .slice a3 T.ys.length c3] T vs (.slice (some ⟨gn, 0, none⟩) T.ns.length c1) (.slice a2 T.rs.length c2) (.slice a3 T.ys.length c3))) (H := (fun w' => w'.cell? ⟨ob, 0, none⟩ = some (.slice (some ⟨gn, 0, none⟩) T.ns.length c1))) (k := 6) (by kernel_rfl) hS0 (fun hHeld => ?_)
      clear hS0
      refine anyK_takeH (i := 0) (oi := ?o11) (v := ?v11) ?hi11 ?hs11 ?hf11 ?hr11 ?hQ11 ?hw11 ?hy11 ?hS11 ?rest11
      case hi11 => rfl
      case hs11 => kernel_rfl
      case hf11 => kernel_rfl
      case hr11 => kernel_rfl
      case hQ11 => exact fun _ _ _ h => h
      case hw11 => kernel_rfl
      case hS11 => assumption
      case hy11 =>
        refine Or.inl ⟨by kernel_rfl, ?_⟩
        intro w' hSw
        (try dsimp only at hSw)
        go_simp
        (try rfl)
      (try simp only [List.getElem_toArray, List.getElem_cons_zero, Act.put, List.setIfInBounds_toArray, List.set_cons_zero, List.set_cons_succ])
      refine anyK_takeH (i := 1) (oi := ?o12) (v := ?v12) ?hi12 ?hs12 ?hf12 ?hr12 ?hQ12 ?hw12 ?hy12 ?hS12 ?rest12
      case hi12 => rfl
      case hs12 => kernel_rfl
      case hf12 => kernel_rfl
      case hr12 => kernel_rfl
      case hQ12 => exact fun _ _ _ h => h
      case hw12 => kernel_rfl
      case hS12 => assumption
      case hy12 =>
        refine Or.inl ⟨by kernel_rfl, ?_⟩
        intro w' hSw
        (try dsimp only at hSw)
        go_simp
        (try rfl)
      (try simp only [List.getElem_toArray, List.getElem_cons_succ, List.getElem_cons_zero, Act.put, List.setIfInBounds_toArray, List.set_cons_zero, List.set_cons_succ])
      refine anyK_takeH (i := 2) (oi := ?o13) (v := ?v13) ?hi13 ?hs13 ?hf13 ?hr13 ?hQ13 ?hw13 ?hy13 ?hS13 ?rest13
      case hi13 => rfl
      case hs13 => kernel_rfl
      case hf13 => kernel_rfl
      case hr13 => kernel_rfl
      case hQ13 => exact fun _ _ _ h => h
      case hw13 => kernel_rfl
      case hS13 => assumption
      case hy13 =>
        refine Or.inl ⟨by kernel_rfl, ?_⟩
        intro w' hSw
        (try dsimp only at hSw)
        go_simp
        (try rfl)
      (try simp only [List.getElem_toArray, List.getElem_cons_succ, List.getElem_cons_zero, Act.put, List.setIfInBounds_toArray, List.set_cons_zero, List.set_cons_succ])
      refine anyK_ready (rs := [3]) (by kernel_rfl) (by simp) ?_
      refine allK_cons rfl (fun K hK => ?_) allK_nil
      go_simp
      have HD5 := Lib.hid (hHeld.1.laid (.cells #[.string ⟨#[]⟩, .string ⟨#[65]⟩, .string ⟨#[49, 97]⟩, .string ⟨#[121]⟩, .string ⟨#[97, 98, 99, 100, 101, 102, 103, 104, 105, 106, 107, 108]⟩, .string ⟨#[97, 98, 99, 100, 101, 102, 103, 104, 105, 106, 107, 108, 109]⟩, .string ⟨#[98]⟩] 9))
      refine hK.out _ _ (⟨HD5.out, cell_blk HD5.out.box 0⟩) (fun hHeld => ?_)
      clear hK K
      (try simp only [List.getElem_toArray, List.getElem_cons_succ, List.getElem_cons_zero, Act.put, List.setIfInBounds_toArray, List.set_cons_zero, List.set_cons_succ])
      refine anyK_ready (rs := [4]) (by kernel_rfl) (by simp) ?_
      refine allK_cons rfl (fun K hK => ?_) allK_nil
      go_simp
      refine (l1Pick W _ p w3.heap.size 7 13 (by omega) (by omega) hne9 ?_ hHeld.1.cur).mono ?_
      · exact strList (w := w3.drew) 13 (by rfl) (by decide)
      rintro e w4 ⟨⟨s, hs, rfl⟩, hc4, hg4⟩
      obtain ⟨f, rfl⟩ : ∃ f : List UInt8, s = ⟨f.toArray⟩ := ⟨s.data.toList, (mk_toList s).symm⟩
      have hfl : f.length ≤ 13 := by simpa [ByteArray.size] using hs
      have HD4 := Lib.hid (hHeld.1.draw hc4 hg4)
      refine hK.out _ _ (⟨HD4.out, cell_blk HD4.out.box 0⟩) (fun hHeld => ?_)
      clear hK K
      (try simp only [List.getElem_toArray, List.getElem_cons_succ, List.getElem_cons_zero, Act.put, List.setIfInBounds_toArray, List.set_cons_zero, List.set_cons_succ])
      refine anyK_takeH (i := 5) (oi := ?o14) (v := ?v14) ?hi14 ?hs14 ?hf14 ?hr14 ?hQ14 ?hw14 ?hy14 ?hS14 ?rest14
      case hi14 => rfl
      case hs14 => kernel_rfl
      case hf14 => kernel_rfl
      case hr14 => kernel_rfl
      case hQ14 => exact fun _ _ _ h => h
      case hw14 => kernel_rfl
      case hS14 => assumption
      case hy14 =>
        refine Or.inl ⟨by kernel_rfl, ?_⟩
        intro w' hSw
        (try dsimp only at hSw)
        go_simp
        (try rfl)
      (try simp only [List.getElem_toArray, List.getElem_cons_succ, List.getElem_cons_zero, Act.put, List.setIfInBounds_toArray, List.set_cons_zero, List.set_cons_succ])
      have hap := HD4.out.apart HD4.out.own.1 (by decide) (by decide)
      obtain ⟨⟨y0, hy0c⟩, hyf, hyl9⟩ := own_open HD4.out.own.1 hns0
      have h3n : ob ≠ gn := Ne.symm hap.2.2.1
      have hx9 : (fun w' => w'.cell? ⟨ob, 0, none⟩ = some (.slice (some ⟨gn, 0, none⟩) T.ns.length c1)) (w4.setCell ⟨gn, 0, none⟩ (.string ⟨f.toArray⟩)) := cell_setB (cell_blk HD4.out.box 0) h3n
      clear hHeld
      refine anyK_ready (rs := [6]) (by kernel_rfl) (by simp) ?_
      refine allK_past rfl (by kernel_rfl) (fun K hK => ?_)
      go_simp
      refine hK.out _ _ (hx9) (fun hHeld => ?_)
      clear hK K
      (try simp only [List.getElem_toArray, List.getElem_cons_succ, List.getElem_cons_zero, Act.put, List.setIfInBounds_toArray, List.set_cons_zero, List.set_cons_succ])
      refine anyK_done (by kernel_rfl) ?_ _
      refine NoPanic.normal ?_
      have HF := Lib.hid (HD4.out.putN (k := 0) f)
      have HSF : Hid (SmallB ⟨T.ns.set 0 f, T.y, T.rs, T.ys⟩) := Lib.hid ⟨by rw [List.length_set]; exact HSM.out.1, HSM.out.2.1, HSM.out.2.2.1, HSM.out.2.2.2.1, fun q hq => (by
        rcases List.mem_or_eq_of_mem_set hq with hq | hq
        · exact HSM.out.2.2.2.2.1 q hq
        · subst hq; omega), HSM.out.2.2.2.2.2⟩
      have h3r : w.heap.size ≠ gn := Ne.symm hap.2.2.2
      clear hx9 hc4 hg4 HD3 HD5 hs
      have p0 := cell_blk HD4.out.res 0
      have p1 := cell_blk HD4.out.res 1
      have p2 := cell_blk HD4.out.res 2
      have p3 := cell_blk HD4.out.res 3
      have f0 := free_blk HD4.out.res 0
      have f1 := free_blk HD4.out.res 1
      have f2 := free_blk HD4.out.res 2
      have f3 := free_blk HD4.out.res 3
      have lp := blk_lt HD4.out.res
      have q0 := cell_blk HD4.out.box 0
      have q1 := cell_blk HD4.out.box 1
      have q2 := cell_blk HD4.out.box 2
      have q3 := cell_blk HD4.out.box 3
      have lq := blk_lt HD4.out.box
      have e0 := free_blk HD4.out.box 0
      have e1 := free_blk HD4.out.box 1
      have e2 := free_blk HD4.out.box 2
      have e3 := free_blk HD4.out.box 3
      have hne := HD4.out.ne
      have HEX := Lib.hid (HF.out.exit (.slice (some ⟨gn, 0, none⟩) T.ns.length c1) (.string ⟨T.y.toArray⟩) (.slice a2 T.rs.length c2) (.slice a3 T.ys.length c3))
      go_wp2_with fail
      refine bodyPost_ret (v := .agg #[(.slice (some ⟨gn, 0, none⟩) T.ns.length c1), (.string ⟨T.y.toArray⟩), (.slice a2 T.rs.length c2), (.slice a3 T.ys.length c3)]) ?_ rfl ⟨⟨T.ns.set 0 f, T.y, T.rs, T.ys⟩, _, (.slice (some ⟨gn, 0, none⟩) T.ns.length c1), (.slice a2 T.rs.length c2), (.slice a3 T.ys.length c3), rfl, HEX.out.1, HSF.out, HEX.out.2⟩
      rw [results_oneD rfl]
      go_simp
    · have hne9 : w3.heap.size ≠ p := by have := HD3.out.cur.lt; omega
      go_wp2_with fail
      refine (l1Pick W _ p w3.heap.size 3 2 (by omega) (by omega) hne9 ?_ (HD3.out.cur.alloc _)).mono ?_
      · refine strList 2 ?_ ?_
        · rfl
        · decide
      rintro e w4 ⟨⟨s, hs, rfl⟩, hc4, hg4⟩
      obtain ⟨f, rfl⟩ : ∃ f : List UInt8, s = ⟨f.toArray⟩ := ⟨s.data.toList, (mk_toList s).symm⟩
      have hfl : f.length ≤ 2 := by simpa [ByteArray.size] using hs
      have HD4 := Lib.hid ((HD3.out.laid _).draw hc4 hg4)
      have HF := Lib.hid ((HD4.out.set 1 (.string ⟨f.toArray⟩)).reY f)
      have HSF : Hid (SmallB ⟨T.ns, f, T.rs, T.ys⟩) := Lib.hid ⟨HSM.out.1, HSM.out.2.1, HSM.out.2.2.1, HSM.out.2.2.2.1, HSM.out.2.2.2.2.1, show f.length ≤ 1024 by omega⟩
      clear hc4 hg4 HD3 hs
      have p0 := cell_blk HD4.out.res 0
      have p1 := cell_blk HD4.out.res 1
      have p2 := cell_blk HD4.out.res 2
      have p3 := cell_blk HD4.out.res 3
      have f0 := free_blk HD4.out.res 0
      have f1 := free_blk HD4.out.res 1
      have f2 := free_blk HD4.out.res 2
      have f3 := free_blk HD4.out.res 3
      have lp := blk_lt HD4.out.res
      have q0 := cell_blk HD4.out.box 0
      have q1 := cell_blk HD4.out.box 1
      have q2 := cell_blk HD4.out.box 2
      have q3 := cell_blk HD4.out.box 3
      have lq := blk_lt HD4.out.box
      have e0 := free_blk HD4.out.box 0
      have e1 := free_blk HD4.out.box 1
      have e2 := free_blk HD4.out.box 2
      have e3 := free_blk HD4.out.box 3
      have hne := HD4.out.ne
      have HEX := Lib.hid (HF.out.exit (.slice a1 T.ns.length c1) (.string ⟨f.toArray⟩) (.slice a2 T.rs.length c2) (.slice a3 T.ys.length c3))
      go_wp2_with fail
      refine bodyPost_ret (v := .agg #[(.slice a1 T.ns.length c1), (.string ⟨f.toArray⟩), (.slice a2 T.rs.length c2), (.slice a3 T.ys.length c3)]) ?_ rfl ⟨⟨T.ns, f, T.rs, T.ys⟩, _, (.slice a1 T.ns.length c1), (.slice a2 T.rs.length c2), (.slice a3 T.ys.length c3), rfl, HEX.out.1, HSF.out, HEX.out.2⟩
      rw [results_oneD rfl]
      go_simp
    · obtain ⟨g2, cy, hv⟩ := Go.Joins.ownsRow_form HD3.out.own.2.1 (by omega)
      injection hv with hv hv2 hv3
      subst hv
      clear hv2 hv3
      obtain ⟨rk, hrk⟩ : ∃ r, T.rs[k]? = some r := ⟨_, List.getElem?_eq_getElem hk⟩
      have hvl : vs.length = T.rs.length := by
        have := HD3.out.own.2.2.1.1
        simpa using this
      obtain ⟨xk, hxk⟩ : ∃ x, vs[k]? = some x := ⟨_, List.getElem?_eq_getElem (by omega)⟩
      have hrl := HRL.out rk (List.mem_of_getElem? hrk)
      have hrow0 := HD3.out.own.2.2.1.2.1 k xk (intCells rk) hxk (by rw [List.getElem?_map, hrk]; rfl)
      rw [intCells_len] at hrow0
      obtain ⟨gk, ck, hf⟩ := Go.Joins.ownsRow_form hrow0 (by omega)
      subst hf
      have HRK : Hid (T.rs[k]? = some rk) := Lib.hid hrk
      have HXK : Hid (vs[k]? = some (.slice (some ⟨gk, 0, none⟩) rk.length ck)) := Lib.hid hxk
      have hk0 : (0 : Int) ≤ k := by omega
      have hk1 : (k : Int) < T.rs.length := by omega
      have hrk0 : 0 < rk.length := by omega
      have hrk1 : (0 : Int) < rk.length := by omega
      have HRW9 := Lib.hid hrl
      clear hrk hxk hvl hrl
      have HD5 := Lib.hid ((HD3.out.draw HD3.out.cur.drew (grownBy_drew (grownBy_refl _ _))).laid (.cells #[.int .i64 0] 3))
      have hS0 : (fun w' => w'.cell? ⟨ob, 2, none⟩ = some (.slice (some ⟨g2, 0, none⟩) T.rs.length c2) ∧ w'.cell? ⟨g2, k, none⟩ = some (.slice (some ⟨gk, 0, none⟩) rk.length ck)) w3.drew ∧ (fun _ => True) w3.drew := ⟨⟨cell_blk HD3.out.box 2, (HD3.out.own.2.1.cellAt k (by omega)).trans HXK.out⟩, trivial⟩
      clear hrow0
      go_upto_region 9 with fail
      refine wp_region_noPanic ?_
      refine wp_region_K (S := (fun w' => w'.cell? ⟨ob, 2, none⟩ = some (.slice (some ⟨g2, 0, none⟩) T.rs.length c2) ∧ w'.cell? ⟨g2, k, none⟩ = some (.slice (some ⟨gk, 0, none⟩) rk.length ck))) (H := (fun _ => True)) (k := 11) (by kernel_rfl) hS0 (fun hHeld => ?_)
      clear hS0
      refine anyK_take (i := 0) (oi := ?o22) (v := ?v22) ?hi22 ?hs22 ?hf22 ?hr22 ?hQ22 ?hw22 ?hy22 ?hS22 ?rest22
      case hi22 => rfl
      case hs22 => kernel_rfl
      case hf22 => kernel_rfl
      case hr22 => kernel_rfl
      case hQ22 => exact fun _ _ _ h => h
      case hw22 => kernel_rfl
      case hS22 => assumption
      case hy22 =>
        refine Or.inl ⟨by kernel_rfl, ?_⟩
        intro w' hSw
        (try dsimp only at hSw)
        go_simp
        (try rfl)
      (try simp only [List.getElem_toArray, List.getElem_cons_zero, Act.put, List.setIfInBounds_toArray, List.set_cons_zero, List.set_cons_succ])
      refine anyK_take (i := 1) (oi := ?o23) (v := ?v23) ?hi23 ?hs23 ?hf23 ?hr23 ?hQ23 ?hw23 ?hy23 ?hS23 ?rest23
      case hi23 => rfl
      case hs23 => kernel_rfl
      case hf23 => kernel_rfl
      case hr23 => kernel_rfl
      case hQ23 => exact fun _ _ _ h => h
      case hw23 => kernel_rfl
      case hS23 => assumption
      case hy23 =>
        refine Or.inl ⟨by kernel_rfl, ?_⟩
        intro w' hSw
        (try dsimp only at hSw)
        go_simp
        (try rfl)
      (try simp only [List.getElem_toArray, List.getElem_cons_succ, List.getElem_cons_zero, Act.put, List.setIfInBounds_toArray, List.set_cons_zero, List.set_cons_succ])
      refine anyK_take (i := 2) (oi := ?o24) (v := ?v24) ?hi24 ?hs24 ?hf24 ?hr24 ?hQ24 ?hw24 ?hy24 ?hS24 ?rest24
      case hi24 => rfl
      case hs24 => kernel_rfl
      case hf24 => kernel_rfl
      case hr24 => kernel_rfl
      case hQ24 => exact fun _ _ _ h => h
      case hw24 => kernel_rfl
      case hS24 => assumption
      case hy24 =>
        refine Or.inl ⟨by kernel_rfl, ?_⟩
        intro w' hSw
        (try dsimp only at hSw)
        go_simp
        (try rfl)
      (try simp only [List.getElem_toArray, List.getElem_cons_succ, List.getElem_cons_zero, Act.put, List.setIfInBounds_toArray, List.set_cons_zero, List.set_cons_succ])
      refine anyK_take (i := 3) (oi := ?o25) (v := ?v25) ?hi25 ?hs25 ?hf25 ?hr25 ?hQ25 ?hw25 ?hy25 ?hS25 ?rest25
      case hi25 => rfl
      case hs25 => kernel_rfl
      case hf25 => kernel_rfl
      case hr25 => kernel_rfl
      case hQ25 => exact fun _ _ _ h => h
      case hw25 => kernel_rfl
      case hS25 => assumption
      case hy25 =>
        refine Or.inl ⟨by kernel_rfl, ?_⟩
        intro w' hSw
        (try dsimp only at hSw)
        go_simp
        (try rfl)
      (try simp only [List.getElem_toArray, List.getElem_cons_succ, List.getElem_cons_zero, Act.put, List.setIfInBounds_toArray, List.set_cons_zero, List.set_cons_succ])
      refine anyK_take (i := 4) (oi := ?o26) (v := ?v26) ?hi26 ?hs26 ?hf26 ?hr26 ?hQ26 ?hw26 ?hy26 ?hS26 ?rest26
      case hi26 => rfl
      case hs26 => kernel_rfl
      case hf26 => kernel_rfl
      case hr26 => kernel_rfl
      case hQ26 => exact fun _ _ _ h => h
      case hw26 => kernel_rfl
      case hS26 => assumption
      case hy26 =>
        refine Or.inl ⟨by kernel_rfl, ?_⟩
        intro w' hSw
        (try dsimp only at hSw)
        go_simp
        (try rfl)
      (try simp only [List.getElem_toArray, List.getElem_cons_succ, List.getElem_cons_zero, Act.put, List.setIfInBounds_toArray, List.set_cons_zero, List.set_cons_succ])
      refine anyK_take (i := 5) (oi := ?o27) (v := ?v27) ?hi27 ?hs27 ?hf27 ?hr27 ?hQ27 ?hw27 ?hy27 ?hS27 ?rest27
      case hi27 => rfl
      case hs27 => kernel_rfl
      case hf27 => kernel_rfl
      case hr27 => kernel_rfl
      case hQ27 => exact fun _ _ _ h => h
      case hw27 => kernel_rfl
      case hS27 => assumption
      case hy27 =>
        refine Or.inl ⟨by kernel_rfl, ?_⟩
        intro w' hSw
        (try dsimp only at hSw)
        go_simp
        (try rfl)
      (try simp only [List.getElem_toArray, List.getElem_cons_succ, List.getElem_cons_zero, Act.put, List.setIfInBounds_toArray, List.set_cons_zero, List.set_cons_succ])
      refine anyK_take (i := 6) (oi := ?o28) (v := ?v28) ?hi28 ?hs28 ?hf28 ?hr28 ?hQ28 ?hw28 ?hy28 ?hS28 ?rest28
      case hi28 => rfl
      case hs28 => kernel_rfl
      case hf28 => kernel_rfl
      case hr28 => kernel_rfl
      case hQ28 => exact fun _ _ _ h => h
      case hw28 => kernel_rfl
      case hS28 => assumption
      case hy28 =>
        refine Or.inl ⟨by kernel_rfl, ?_⟩
        intro w' hSw
        (try dsimp only at hSw)
        go_simp
        (try rfl)
      (try simp only [List.getElem_toArray, List.getElem_cons_succ, List.getElem_cons_zero, Act.put, List.setIfInBounds_toArray, List.set_cons_zero, List.set_cons_succ])
      refine anyK_take (i := 7) (oi := ?o29) (v := ?v29) ?hi29 ?hs29 ?hf29 ?hr29 ?hQ29 ?hw29 ?hy29 ?hS29 ?rest29
      case hi29 => rfl
      case hs29 => kernel_rfl
      case hf29 => kernel_rfl
      case hr29 => kernel_rfl
      case hQ29 => exact fun _ _ _ h => h
      case hw29 => kernel_rfl
      case hS29 => assumption
      case hy29 =>
        refine Or.inl ⟨by kernel_rfl, ?_⟩
        intro w' hSw
        (try dsimp only at hSw)
        go_simp
        (try rfl)
      (try simp only [List.getElem_toArray, List.getElem_cons_succ, List.getElem_cons_zero, Act.put, List.setIfInBounds_toArray, List.set_cons_zero, List.set_cons_succ])
      refine anyK_ready (rs := [8]) (by kernel_rfl) (by simp) ?_
      refine allK_cons rfl (fun K hK => ?_) allK_nil
      go_simp
      refine hK.out _ _ (⟨⟨cell_blk HD5.out.box 2, (HD5.out.own.2.1.cellAt k (by omega)).trans HXK.out⟩, trivial⟩) (fun hHeld => ?_)
      clear hK K
      (try simp only [List.getElem_toArray, List.getElem_cons_succ, List.getElem_cons_zero, Act.put, List.setIfInBounds_toArray, List.set_cons_zero, List.set_cons_succ])
      refine anyK_ready (rs := [9]) (by kernel_rfl) (by simp) ?_
      refine allK_cons rfl (fun K hK => ?_) allK_nil
      have hr5 := HD5.out.own.2.2.1.2.1 k (.slice (some ⟨gk, 0, none⟩) rk.length ck) (intCells rk) HXK.out (by rw [List.getElem?_map, HRK.out]; rfl)
      rw [intCells_len] at hr5
      have hb5 := alloc_blk w3.drew #[.int .i64 0] 3
      refine step_append_lies _ rfl (.tmp 37) (.tmp 38) 24 rfl w.heap.size 3 iI (.int .i64 0) 1 8 Try.underlying24 gi gz0 gz1 gz2 rfl (by decide) (.slice (some ⟨gk, 0, none⟩) rk.length ck) rk.length (intCells rk) (by simp [Act.eval]) hr5 ⟨w3.heap.size, 0, none⟩ 1 1 [.int .i64 0] (by simp [Act.eval]) rfl (news_blkB hb5) (by intro y hy; simp at hy; subst hy; rfl) (by omega) (by rw [HRW9.out]; unfold maxLen; omega) (by rw [HRW9.out]; omega) HD5.out.grown.size _ rfl ?_
      intro g9 c9 w9 hown9 hg9 hat9 _
      have hbx9 := (hg9.block ob (blk_lt HD5.out.box) (fun e => own_ne_blk hr5 HD5.out.box (by decide) e.symm)).trans HD5.out.box
      have hr29 := owns_far HD5.out.own.2.1 hg9 (fun q e e2 => owns_apart hr5 HD5.out.own.2.1 (by decide) q e e2)
      refine hK.out _ _ (⟨⟨cell_blk hbx9 2, (hr29.cellAt k (by omega)).trans HXK.out⟩, trivial⟩) (fun hHeld => ?_)
      clear hK K
      (try simp only [List.getElem_toArray, List.getElem_cons_succ, List.getElem_cons_zero, Act.put, List.setIfInBounds_toArray, List.set_cons_zero, List.set_cons_succ])
      refine anyK_take (i := 10) (oi := ?o30) (v := ?v30) ?hi30 ?hs30 ?hf30 ?hr30 ?hQ30 ?hw30 ?hy30 ?hS30 ?rest30
      case hi30 => rfl
      case hs30 => kernel_rfl
      case hf30 => kernel_rfl
      case hr30 => kernel_rfl
      case hQ30 => exact fun _ _ _ h => h
      case hw30 => kernel_rfl
      case hS30 => assumption
      case hy30 =>
        refine Or.inl ⟨by kernel_rfl, ?_⟩
        intro w' hSw
        (try dsimp only at hSw)
        go_simp
        (try rfl)
      (try simp only [List.getElem_toArray, List.getElem_cons_succ, List.getElem_cons_zero, Act.put, List.setIfInBounds_toArray, List.set_cons_zero, List.set_cons_succ])
      obtain ⟨⟨y0, hy0c⟩, hyf, hyl9⟩ := own_open hr29 hk
      clear hHeld
      refine anyK_ready (rs := [11]) (by kernel_rfl) (by simp) ?_
      refine allK_past rfl (by kernel_rfl) (fun K hK => ?_)
      go_simp
      refine hK.out _ _ (trivial) (fun hHeld => ?_)
      clear hK K
      (try simp only [List.getElem_toArray, List.getElem_cons_succ, List.getElem_cons_zero, Act.put, List.setIfInBounds_toArray, List.set_cons_zero, List.set_cons_succ])
      refine anyK_done (by kernel_rfl) ?_ _
      refine NoPanic.normal ?_
      have HF := Lib.hid (HD5.out.appR HXK.out HRK.out hg9 hown9 (hat9.imp id (fun e => Nat.le_of_eq e.symm)))
      have HSF : Hid (SmallB ⟨T.ns, T.y, T.rs.set k (rk ++ [0]), T.ys⟩) := Lib.hid ⟨HSM.out.1, by rw [List.length_set]; exact HSM.out.2.1, fun q hq => (by
        rcases List.mem_or_eq_of_mem_set hq with hq | hq
        · exact HSM.out.2.2.1 q hq
        · subst hq; rw [List.length_append, HRW9.out, List.length_singleton]; omega), HSM.out.2.2.2.1, HSM.out.2.2.2.2.1, HSM.out.2.2.2.2.2⟩
      clear HD5 hr5 hb5 hbx9 hr29 hg9 hown9 hat9 hy0c hyf hyl9 HD3
      generalize hw10 : w9.setCell ⟨g2, k, none⟩ (.slice (some ⟨g9, 0, none⟩) (rk.length + 1) c9) = w10 at HF ⊢
      clear hw10
      have p0 := cell_blk HF.out.res 0
      have p1 := cell_blk HF.out.res 1
      have p2 := cell_blk HF.out.res 2
      have p3 := cell_blk HF.out.res 3
      have f0 := free_blk HF.out.res 0
      have f1 := free_blk HF.out.res 1
      have f2 := free_blk HF.out.res 2
      have f3 := free_blk HF.out.res 3
      have lp := blk_lt HF.out.res
      have q0 := cell_blk HF.out.box 0
      have q1 := cell_blk HF.out.box 1
      have q2 := cell_blk HF.out.box 2
      have q3 := cell_blk HF.out.box 3
      have lq := blk_lt HF.out.box
      have e0 := free_blk HF.out.box 0
      have e1 := free_blk HF.out.box 1
      have e2 := free_blk HF.out.box 2
      have e3 := free_blk HF.out.box 3
      have hne := HF.out.ne
      have HEX := Lib.hid (HF.out.exit (.slice a1 T.ns.length c1) (.string ⟨T.y.toArray⟩) (.slice (some ⟨g2, 0, none⟩) T.rs.length c2) (.slice a3 T.ys.length c3))
      go_wp2_with fail
      refine bodyPost_ret (v := .agg #[(.slice a1 T.ns.length c1), (.string ⟨T.y.toArray⟩), (.slice (some ⟨g2, 0, none⟩) T.rs.length c2), (.slice a3 T.ys.length c3)]) ?_ rfl ⟨⟨T.ns, T.y, T.rs.set k (rk ++ [0]), T.ys⟩, _, (.slice a1 T.ns.length c1), (.slice (some ⟨g2, 0, none⟩) T.rs.length c2), (.slice a3 T.ys.length c3), rfl, HEX.out.1, HSF.out, HEX.out.2⟩
      rw [results_oneD rfl]
      go_simp
    · obtain ⟨g2, cy, hv⟩ := Go.Joins.ownsRow_form HD3.out.own.2.1 (by omega)
      injection hv with hv hv2 hv3
      subst hv
      clear hv2 hv3
      obtain ⟨rk, hrk⟩ : ∃ r, T.rs[k]? = some r := ⟨_, List.getElem?_eq_getElem hk⟩
      have hvl : vs.length = T.rs.length := by
        have := HD3.out.own.2.2.1.1
        simpa using this
      obtain ⟨xk, hxk⟩ : ∃ x, vs[k]? = some x := ⟨_, List.getElem?_eq_getElem (by omega)⟩
      have hrl := HRL.out rk (List.mem_of_getElem? hrk)
      have hrow0 := HD3.out.own.2.2.1.2.1 k xk (intCells rk) hxk (by rw [List.getElem?_map, hrk]; rfl)
      rw [intCells_len] at hrow0
      obtain ⟨gk, ck, hf⟩ := Go.Joins.ownsRow_form hrow0 (by omega)
      subst hf
      have HRK : Hid (T.rs[k]? = some rk) := Lib.hid hrk
      have HXK : Hid (vs[k]? = some (.slice (some ⟨gk, 0, none⟩) rk.length ck)) := Lib.hid hxk
      have hk0 : (0 : Int) ≤ k := by omega
      have hk1 : (k : Int) < T.rs.length := by omega
      have hrk0 : 0 < rk.length := by omega
      have hrk1 : (0 : Int) < rk.length := by omega
      have HRW9 := Lib.hid hrl
      clear hrk hxk hvl hrl
      have hS0 : (fun w' => DrT W w w' p w.heap.size ob #[.slice a1 T.ns.length c1, .string ⟨T.y.toArray⟩, .slice (some ⟨g2, 0, none⟩) T.rs.length c2, .slice a3 T.ys.length c3] T vs (.slice a1 T.ns.length c1) (.slice (some ⟨g2, 0, none⟩) T.rs.length c2) (.slice a3 T.ys.length c3)) w3.drew ∧ (fun w' => w'.cell? ⟨ob, 2, none⟩ = some (.slice (some ⟨g2, 0, none⟩) T.rs.length c2) ∧ w'.cell? ⟨g2, k, none⟩ = some (.slice (some ⟨gk, 0, none⟩) rk.length ck)) w3.drew := ⟨HD3.out.draw HD3.out.cur.drew (grownBy_drew (grownBy_refl _ _)), cell_blk HD3.out.box 2, (HD3.out.own.2.1.cellAt k (by omega)).trans HXK.out⟩
      have hne9 : w3.heap.size ≠ p := by have := HD3.out.cur.lt; omega
      have HR4 := Lib.hid hrow0
      clear hrow0
      go_upto_region 11 with fail
      refine wp_region_noPanic ?_
      refine wp_region_K (S := (fun w' => DrT W w w' p w.heap.size ob #[.slice a1 T.ns.length c1, .string ⟨T.y.toArray⟩, .slice (some ⟨g2, 0, none⟩) T.rs.length c2, .slice a3 T.ys.length c3] T vs (.slice a1 T.ns.length c1) (.slice (some ⟨g2, 0, none⟩) T.rs.length c2) (.slice a3 T.ys.length c3))) (H := (fun w' => w'.cell? ⟨ob, 2, none⟩ = some (.slice (some ⟨g2, 0, none⟩) T.rs.length c2) ∧ w'.cell? ⟨g2, k, none⟩ = some (.slice (some ⟨gk, 0, none⟩) rk.length ck))) (k := 9) (by kernel_rfl) hS0 (fun hHeld => ?_)
      clear hS0
      refine anyK_takeH (i := 0) (oi := ?o15) (v := ?v15) ?hi15 ?hs15 ?hf15 ?hr15 ?hQ15 ?hw15 ?hy15 ?hS15 ?rest15
      case hi15 => rfl
      case hs15 => kernel_rfl
      case hf15 => kernel_rfl
      case hr15 => kernel_rfl
      case hQ15 => exact fun _ _ _ h => h
      case hw15 => kernel_rfl
      case hS15 => assumption
      case hy15 =>
        refine Or.inl ⟨by kernel_rfl, ?_⟩
        intro w' hSw
        (try dsimp only at hSw)
        go_simp
        (try rfl)
      (try simp only [List.getElem_toArray, List.getElem_cons_zero, Act.put, List.setIfInBounds_toArray, List.set_cons_zero, List.set_cons_succ])
      refine anyK_takeH (i := 1) (oi := ?o16) (v := ?v16) ?hi16 ?hs16 ?hf16 ?hr16 ?hQ16 ?hw16 ?hy16 ?hS16 ?rest16
      case hi16 => rfl
      case hs16 => kernel_rfl
      case hf16 => kernel_rfl
      case hr16 => kernel_rfl
      case hQ16 => exact fun _ _ _ h => h
      case hw16 => kernel_rfl
      case hS16 => assumption
      case hy16 =>
        refine Or.inl ⟨by kernel_rfl, ?_⟩
        intro w' hSw
        (try dsimp only at hSw)
        go_simp
        (try rfl)
      (try simp only [List.getElem_toArray, List.getElem_cons_succ, List.getElem_cons_zero, Act.put, List.setIfInBounds_toArray, List.set_cons_zero, List.set_cons_succ])
      refine anyK_takeH (i := 2) (oi := ?o17) (v := ?v17) ?hi17 ?hs17 ?hf17 ?hr17 ?hQ17 ?hw17 ?hy17 ?hS17 ?rest17
      case hi17 => rfl
      case hs17 => kernel_rfl
      case hf17 => kernel_rfl
      case hr17 => kernel_rfl
      case hQ17 => exact fun _ _ _ h => h
      case hw17 => kernel_rfl
      case hS17 => assumption
      case hy17 =>
        refine Or.inl ⟨by kernel_rfl, ?_⟩
        intro w' hSw
        (try dsimp only at hSw)
        go_simp
        (try rfl)
      (try simp only [List.getElem_toArray, List.getElem_cons_succ, List.getElem_cons_zero, Act.put, List.setIfInBounds_toArray, List.set_cons_zero, List.set_cons_succ])
      refine anyK_takeH (i := 3) (oi := ?o18) (v := ?v18) ?hi18 ?hs18 ?hf18 ?hr18 ?hQ18 ?hw18 ?hy18 ?hS18 ?rest18
      case hi18 => rfl
      case hs18 => kernel_rfl
      case hf18 => kernel_rfl
      case hr18 => kernel_rfl
      case hQ18 => exact fun _ _ _ h => h
      case hw18 => kernel_rfl
      case hS18 => assumption
      case hy18 =>
        refine Or.inl ⟨by kernel_rfl, ?_⟩
        intro w' hSw
        (try dsimp only at hSw)
        go_simp
        (try rfl)
      (try simp only [List.getElem_toArray, List.getElem_cons_succ, List.getElem_cons_zero, Act.put, List.setIfInBounds_toArray, List.set_cons_zero, List.set_cons_succ])
      refine anyK_takeH (i := 4) (oi := ?o19) (v := ?v19) ?hi19 ?hs19 ?hf19 ?hr19 ?hQ19 ?hw19 ?hy19 ?hS19 ?rest19
      case hi19 => rfl
      case hs19 => kernel_rfl
      case hf19 => kernel_rfl
      case hr19 => kernel_rfl
      case hQ19 => exact fun _ _ _ h => h
      case hw19 => kernel_rfl
      case hS19 => assumption
      case hy19 =>
        refine Or.inl ⟨by kernel_rfl, ?_⟩
        intro w' hSw
        (try dsimp only at hSw)
        go_simp
        (try rfl)
      (try simp only [List.getElem_toArray, List.getElem_cons_succ, List.getElem_cons_zero, Act.put, List.setIfInBounds_toArray, List.set_cons_zero, List.set_cons_succ])
      refine anyK_takeH (i := 5) (oi := ?o20) (v := ?v20) ?hi20 ?hs20 ?hf20 ?hr20 ?hQ20 ?hw20 ?hy20 ?hS20 ?rest20
      case hi20 => rfl
      case hs20 => kernel_rfl
      case hf20 => kernel_rfl
      case hr20 => kernel_rfl
      case hQ20 => exact fun _ _ _ h => h
      case hw20 => kernel_rfl
      case hS20 => assumption
      case hy20 =>
        refine Or.inl ⟨by kernel_rfl, ?_⟩
        intro w' hSw
        (try dsimp only at hSw)
        go_simp
        (try rfl)
      (try simp only [List.getElem_toArray, List.getElem_cons_succ, List.getElem_cons_zero, Act.put, List.setIfInBounds_toArray, List.set_cons_zero, List.set_cons_succ])
      refine anyK_ready (rs := [6]) (by kernel_rfl) (by simp) ?_
      refine allK_cons rfl (fun K hK => ?_) allK_nil
      go_simp
      have HD5 := Lib.hid (hHeld.1.laid (.cells #[.int .i64 2147483647, .int .i64 2147483648, .int .i64 (-2147483648)] 3))
      refine hK.out _ _ (⟨HD5.out, cell_blk HD5.out.box 2, (HD5.out.own.2.1.cellAt k (by omega)).trans HXK.out⟩) (fun hHeld => ?_)
      clear hK K
      (try simp only [List.getElem_toArray, List.getElem_cons_succ, List.getElem_cons_zero, Act.put, List.setIfInBounds_toArray, List.set_cons_zero, List.set_cons_succ])
      refine anyK_ready (rs := [7]) (by kernel_rfl) (by simp) ?_
      refine allK_cons rfl (fun K hK => ?_) allK_nil
      go_simp
      refine (l1PickInt W _ p w3.heap.size 3 (by omega) (by omega) hne9 ?_ hHeld.1.cur).mono ?_
      · exact intList (w := w3.drew) (by rfl) (by decide)
      rintro e w4 ⟨⟨z, z0, z1, rfl⟩, hc4, hg4⟩
      have HD4 := Lib.hid (hHeld.1.draw hc4 hg4)
      refine hK.out _ _ (⟨HD4.out, cell_blk HD4.out.box 2, (HD4.out.own.2.1.cellAt k (by omega)).trans HXK.out⟩) (fun hHeld => ?_)
      clear hK K
      (try simp only [List.getElem_toArray, List.getElem_cons_succ, List.getElem_cons_zero, Act.put, List.setIfInBounds_toArray, List.set_cons_zero, List.set_cons_succ])
      refine anyK_takeH (i := 8) (oi := ?o21) (v := ?v21) ?hi21 ?hs21 ?hf21 ?hr21 ?hQ21 ?hw21 ?hy21 ?hS21 ?rest21
      case hi21 => rfl
      case hs21 => kernel_rfl
      case hf21 => kernel_rfl
      case hr21 => kernel_rfl
      case hQ21 => exact fun _ _ _ h => h
      case hw21 => kernel_rfl
      case hS21 => assumption
      case hy21 =>
        refine Or.inl ⟨by kernel_rfl, ?_⟩
        intro w' hSw
        (try dsimp only at hSw)
        go_simp
        (try rfl)
      (try simp only [List.getElem_toArray, List.getElem_cons_succ, List.getElem_cons_zero, Act.put, List.setIfInBounds_toArray, List.set_cons_zero, List.set_cons_succ])
      have hr4 := HD4.out.own.2.2.1.2.1 k (.slice (some ⟨gk, 0, none⟩) rk.length ck) (intCells rk) HXK.out (by rw [List.getElem?_map, HRK.out]; rfl)
      rw [intCells_len] at hr4
      have hap := HD4.out.apart hr4 (by decide) (by decide)
      obtain ⟨⟨y0, hy0c⟩, hyf, hyl9⟩ := own_open hr4 hrk0
      have h3n : ob ≠ gk := Ne.symm hap.2.2.1
      have h3g : g2 ≠ gk := fun e => owns_apart HD4.out.own.2.1 hr4 (by decide) g2 rfl (congrArg some e.symm)
      have hx9 : (fun w' => w'.cell? ⟨ob, 2, none⟩ = some (.slice (some ⟨g2, 0, none⟩) T.rs.length c2) ∧ w'.cell? ⟨g2, k, none⟩ = some (.slice (some ⟨gk, 0, none⟩) rk.length ck)) (w4.setCell ⟨gk, 0, none⟩ (.int .i64 z)) := ⟨cell_setB (cell_blk HD4.out.box 2) h3n, cell_setB ((HD4.out.own.2.1.cellAt k (by omega)).trans HXK.out) h3g⟩
      clear hHeld
      refine anyK_ready (rs := [9]) (by kernel_rfl) (by simp) ?_
      refine allK_past rfl (by kernel_rfl) (fun K hK => ?_)
      go_simp
      refine hK.out _ _ (hx9) (fun hHeld => ?_)
      clear hK K
      (try simp only [List.getElem_toArray, List.getElem_cons_succ, List.getElem_cons_zero, Act.put, List.setIfInBounds_toArray, List.set_cons_zero, List.set_cons_succ])
      refine anyK_done (by kernel_rfl) ?_ _
      refine NoPanic.normal ?_
      have HF := Lib.hid (HD4.out.putR HXK.out hr4 rfl z)
      have HSF : Hid (SmallB ⟨T.ns, T.y, T.rs.set k (rk.set 0 z), T.ys⟩) := Lib.hid ⟨HSM.out.1, by rw [List.length_set]; exact HSM.out.2.1, fun q hq => (by
        rcases List.mem_or_eq_of_mem_set hq with hq | hq
        · exact HSM.out.2.2.1 q hq
        · subst hq; rw [List.length_set, HRW9.out]; omega), HSM.out.2.2.2.1, HSM.out.2.2.2.2.1, HSM.out.2.2.2.2.2⟩
      have h3r : w.heap.size ≠ gk := Ne.symm hap.2.2.2
      clear hx9 hc4 hg4 HD3 HD5 hr4
      have p0 := cell_blk HD4.out.res 0
      have p1 := cell_blk HD4.out.res 1
      have p2 := cell_blk HD4.out.res 2
      have p3 := cell_blk HD4.out.res 3
      have f0 := free_blk HD4.out.res 0
      have f1 := free_blk HD4.out.res 1
      have f2 := free_blk HD4.out.res 2
      have f3 := free_blk HD4.out.res 3
      have lp := blk_lt HD4.out.res
      have q0 := cell_blk HD4.out.box 0
      have q1 := cell_blk HD4.out.box 1
      have q2 := cell_blk HD4.out.box 2
      have q3 := cell_blk HD4.out.box 3
      have lq := blk_lt HD4.out.box
      have e0 := free_blk HD4.out.box 0
      have e1 := free_blk HD4.out.box 1
      have e2 := free_blk HD4.out.box 2
      have e3 := free_blk HD4.out.box 3
      have hne := HD4.out.ne
      have HEX := Lib.hid (HF.out.exit (.slice a1 T.ns.length c1) (.string ⟨T.y.toArray⟩) (.slice (some ⟨g2, 0, none⟩) T.rs.length c2) (.slice a3 T.ys.length c3))
      go_wp2_with fail
      refine bodyPost_ret (v := .agg #[(.slice a1 T.ns.length c1), (.string ⟨T.y.toArray⟩), (.slice (some ⟨g2, 0, none⟩) T.rs.length c2), (.slice a3 T.ys.length c3)]) ?_ rfl ⟨⟨T.ns, T.y, T.rs.set k (rk.set 0 z), T.ys⟩, _, (.slice a1 T.ns.length c1), (.slice (some ⟨g2, 0, none⟩) T.rs.length c2), (.slice a3 T.ys.length c3), rfl, HEX.out.1, HSF.out, HEX.out.2⟩
      rw [results_oneD rfl]
      go_simp
    · have hoy := HD3.out.own.2.2.2.1
      obtain ⟨gy, cy, hv⟩ := Go.Joins.ownsRow_form hoy (by rw [HYL.out]; omega)
      injection hv with hv hv2 hv3
      subst hv
      clear hv2 hv3 hoy
      have hky : k < T.ys.length := by rw [HYL.out]; exact hk
      have hk0 : (0 : Int) ≤ k := by omega
      have hky1 : (k : Int) < T.ys.length := by omega
      have hS0 : (fun w' => DrT W w w' p w.heap.size ob #[.slice a1 T.ns.length c1, .string ⟨T.y.toArray⟩, .slice a2 T.rs.length c2, .slice (some ⟨gy, 0, none⟩) T.ys.length c3] T vs (.slice a1 T.ns.length c1) (.slice a2 T.rs.length c2) (.slice (some ⟨gy, 0, none⟩) T.ys.length c3)) w3.drew ∧ (fun w' => w'.cell? ⟨ob, 3, none⟩ = some (.slice (some ⟨gy, 0, none⟩) T.ys.length c3)) w3.drew := ⟨HD3.out.draw HD3.out.cur.drew (grownBy_drew (grownBy_refl _ _)), cell_blk HD3.out.box 3⟩
      go_upto_region 13 with fail
      refine wp_region_noPanic ?_
      refine wp_region_K (S := (fun w' => DrT W w w' p w.heap.size ob #[.slice a1 T.ns.length c1, .string ⟨T.y.toArray⟩, .slice a2 T.rs.length c2, .slice (some ⟨gy, 0, none⟩) T.ys.length c3] T vs (.slice a1 T.ns.length c1) (.slice a2 T.rs.length c2) (.slice (some ⟨gy, 0, none⟩) T.ys.length c3))) (H := (fun w' => w'.cell? ⟨ob, 3, none⟩ = some (.slice (some ⟨gy, 0, none⟩) T.ys.length c3))) (k := 6) (by kernel_rfl) hS0 (fun hHeld => ?_)
      clear hS0
      refine anyK_takeH (i := 0) (oi := ?o6) (v := ?v6) ?hi6 ?hs6 ?hf6 ?hr6 ?hQ6 ?hw6 ?hy6 ?hS6 ?rest6
      case hi6 => rfl
      case hs6 => kernel_rfl
      case hf6 => kernel_rfl
      case hr6 => kernel_rfl
      case hQ6 => exact fun _ _ _ h => h
      case hw6 => kernel_rfl
      case hS6 => assumption
      case hy6 =>
        refine Or.inl ⟨by kernel_rfl, ?_⟩
        intro w' hSw
        (try dsimp only at hSw)
        go_simp
        (try rfl)
      (try simp only [List.getElem_toArray, List.getElem_cons_zero, Act.put, List.setIfInBounds_toArray, List.set_cons_zero, List.set_cons_succ])
      refine anyK_takeH (i := 1) (oi := ?o7) (v := ?v7) ?hi7 ?hs7 ?hf7 ?hr7 ?hQ7 ?hw7 ?hy7 ?hS7 ?rest7
      case hi7 => rfl
      case hs7 => kernel_rfl
      case hf7 => kernel_rfl
      case hr7 => kernel_rfl
      case hQ7 => exact fun _ _ _ h => h
      case hw7 => kernel_rfl
      case hS7 => assumption
      case hy7 =>
        refine Or.inl ⟨by kernel_rfl, ?_⟩
        intro w' hSw
        (try dsimp only at hSw)
        go_simp
        (try rfl)
      (try simp only [List.getElem_toArray, List.getElem_cons_succ, List.getElem_cons_zero, Act.put, List.setIfInBounds_toArray, List.set_cons_zero, List.set_cons_succ])
      refine anyK_takeH (i := 2) (oi := ?o8) (v := ?v8) ?hi8 ?hs8 ?hf8 ?hr8 ?hQ8 ?hw8 ?hy8 ?hS8 ?rest8
      case hi8 => rfl
      case hs8 => kernel_rfl
      case hf8 => kernel_rfl
      case hr8 => kernel_rfl
      case hQ8 => exact fun _ _ _ h => h
      case hw8 => kernel_rfl
      case hS8 => assumption
      case hy8 =>
        refine Or.inl ⟨by kernel_rfl, ?_⟩
        intro w' hSw
        (try dsimp only at hSw)
        go_simp
        (try rfl)
      (try simp only [List.getElem_toArray, List.getElem_cons_succ, List.getElem_cons_zero, Act.put, List.setIfInBounds_toArray, List.set_cons_zero, List.set_cons_succ])
      refine anyK_takeH (i := 3) (oi := ?o9) (v := ?v9) ?hi9 ?hs9 ?hf9 ?hr9 ?hQ9 ?hw9 ?hy9 ?hS9 ?rest9
      case hi9 => rfl
      case hs9 => kernel_rfl
      case hf9 => kernel_rfl
      case hr9 => kernel_rfl
      case hQ9 => exact fun _ _ _ h => h
      case hw9 => kernel_rfl
      case hS9 => assumption
      case hy9 =>
        refine Or.inl ⟨by kernel_rfl, ?_⟩
        intro w' hSw
        (try dsimp only at hSw)
        go_simp
        (try rfl)
      (try simp only [List.getElem_toArray, List.getElem_cons_succ, List.getElem_cons_zero, Act.put, List.setIfInBounds_toArray, List.set_cons_zero, List.set_cons_succ])
      refine anyK_ready (rs := [4]) (by kernel_rfl) (by simp) ?_
      refine allK_cons rfl (fun K hK => ?_) allK_nil
      go_simp
      refine (l1WholeG W _ p hHeld.1.cur).mono ?_
      rintro e w4 ⟨⟨z, z0, z1, rfl⟩, hc4, hg4⟩
      have HD4 := Lib.hid (hHeld.1.draw hc4 hg4)
      refine hK.out _ _ (⟨HD4.out, cell_blk HD4.out.box 3⟩) (fun hHeld => ?_)
      clear hK K
      (try simp only [List.getElem_toArray, List.getElem_cons_succ, List.getElem_cons_zero, Act.put, List.setIfInBounds_toArray, List.set_cons_zero, List.set_cons_succ])
      refine anyK_takeH (i := 5) (oi := ?o10) (v := ?v10) ?hi10 ?hs10 ?hf10 ?hr10 ?hQ10 ?hw10 ?hy10 ?hS10 ?rest10
      case hi10 => rfl
      case hs10 => kernel_rfl
      case hf10 => kernel_rfl
      case hr10 => kernel_rfl
      case hQ10 => exact fun _ _ _ h => h
      case hw10 => kernel_rfl
      case hS10 => assumption
      case hy10 =>
        refine Or.inl ⟨by kernel_rfl, ?_⟩
        intro w' hSw
        (try dsimp only at hSw)
        go_simp
        (try rfl)
      (try simp only [List.getElem_toArray, List.getElem_cons_succ, List.getElem_cons_zero, Act.put, List.setIfInBounds_toArray, List.set_cons_zero, List.set_cons_succ])
      have hap := HD4.out.apart HD4.out.own.2.2.2.1 (by decide) (by decide)
      obtain ⟨⟨y0, hy0c⟩, hyf, hyl9⟩ := own_open HD4.out.own.2.2.2.1 hky
      have h3n : ob ≠ gy := Ne.symm hap.2.2.1
      have hx9 : (fun w' => w'.cell? ⟨ob, 3, none⟩ = some (.slice (some ⟨gy, 0, none⟩) T.ys.length c3)) (w4.setCell ⟨gy, k, none⟩ (.int .i64 z)) := cell_setB (cell_blk HD4.out.box 3) h3n
      clear hHeld
      refine anyK_ready (rs := [6]) (by kernel_rfl) (by simp) ?_
      refine allK_past rfl (by kernel_rfl) (fun K hK => ?_)
      go_simp
      refine hK.out _ _ (hx9) (fun hHeld => ?_)
      clear hK K
      (try simp only [List.getElem_toArray, List.getElem_cons_succ, List.getElem_cons_zero, Act.put, List.setIfInBounds_toArray, List.set_cons_zero, List.set_cons_succ])
      refine anyK_done (by kernel_rfl) ?_ _
      refine NoPanic.normal ?_
      have HF := Lib.hid (HD4.out.putY (k := k) z)
      have HSF : Hid (SmallB ⟨T.ns, T.y, T.rs, T.ys.set k z⟩) := Lib.hid ⟨HSM.out.1, HSM.out.2.1, HSM.out.2.2.1, by rw [List.length_set]; exact HSM.out.2.2.2.1, HSM.out.2.2.2.2.1, HSM.out.2.2.2.2.2⟩
      have h3r : w.heap.size ≠ gy := Ne.symm hap.2.2.2
      clear hx9 hc4 hg4 HD3
      have p0 := cell_blk HD4.out.res 0
      have p1 := cell_blk HD4.out.res 1
      have p2 := cell_blk HD4.out.res 2
      have p3 := cell_blk HD4.out.res 3
      have f0 := free_blk HD4.out.res 0
      have f1 := free_blk HD4.out.res 1
      have f2 := free_blk HD4.out.res 2
      have f3 := free_blk HD4.out.res 3
      have lp := blk_lt HD4.out.res
      have q0 := cell_blk HD4.out.box 0
      have q1 := cell_blk HD4.out.box 1
      have q2 := cell_blk HD4.out.box 2
      have q3 := cell_blk HD4.out.box 3
      have lq := blk_lt HD4.out.box
      have e0 := free_blk HD4.out.box 0
      have e1 := free_blk HD4.out.box 1
      have e2 := free_blk HD4.out.box 2
      have e3 := free_blk HD4.out.box 3
      have hne := HD4.out.ne
      have HEX := Lib.hid (HF.out.exit (.slice a1 T.ns.length c1) (.string ⟨T.y.toArray⟩) (.slice a2 T.rs.length c2) (.slice (some ⟨gy, 0, none⟩) T.ys.length c3))
      go_wp2_with fail
      refine bodyPost_ret (v := .agg #[(.slice a1 T.ns.length c1), (.string ⟨T.y.toArray⟩), (.slice a2 T.rs.length c2), (.slice (some ⟨gy, 0, none⟩) T.ys.length c3)]) ?_ rfl ⟨⟨T.ns, T.y, T.rs, T.ys.set k z⟩, _, (.slice a1 T.ns.length c1), (.slice a2 T.rs.length c2), (.slice (some ⟨gy, 0, none⟩) T.ys.length c3), rfl, HEX.out.1, HSF.out, HEX.out.2⟩
      rw [results_oneD rfl]
      go_simp
    · have hy3 : w3.ownsRow w.heap.size 3 1 (.slice a3 T.ys.length c3) T.ys.length (intCells T.ys) := HD3.out.own.2.2.2.1
      have hYlen : T.ys.length ≤ 40 := by rw [HYL.out]; omega
      have q3 := cell_blk HD3.out.box 3
      have g3 := free_blk HD3.out.box 3
      have lq := blk_lt HD3.out.box
      go_wp2_with (at_builtin; refine wpList_append_own_at _ rfl _ _ 24 rfl w.heap.size 3 iI (.int .i64 0) 1 8 Try.underlying24 gi gz0 gz1 gz2 rfl (by decide) _ _ _ rfl (hy3.alloc _) ⟨w3.heap.size, 0, none⟩ 1 1 [.int .i64 1] rfl rfl ?a1 ?b1 ?c1 ?d1 ?e1 ?_)
      try (case a1 => exact news_one)
      case b1 => first | (intro u hu; simp at hu; subst hu; rfl) | rfl
      case c1 => unfold maxLen; omega
      case d1 => omega
      case e1 => have := HD3.out.grown.size; (try simp); omega
      intro v5 w9 hown9 hg9 _ hat9
      obtain ⟨gy, cy, hv5⟩ := Go.Joins.ownsRow_form hown9 (by omega)
      subst hv5
      have HZ := Lib.hid ((HD3.out.laid (.cells #[.int .i64 1] 3)).pushY hg9 hown9 (by
        rcases hat9 with h | h
        · exact Or.inl h.symm
        · exact Or.inr (by have e9 : gy = w3.heap.size + 1 := Option.some.inj h; rw [sz_alloc]; omega)))
      have HF := Lib.hid (HZ.out.set 3 (.slice (some ⟨gy, 0, none⟩) (T.ys.length + 1) cy))
      have HSF : Hid (SmallB ⟨T.ns, T.y, T.rs, T.ys ++ [1]⟩) := Lib.hid ⟨HSM.out.1, HSM.out.2.1, HSM.out.2.2.1, by rw [List.length_append]; have : [(1 : Int)].length = 1 := rfl; omega, HSM.out.2.2.2.2.1, HSM.out.2.2.2.2.2⟩
      clear hown9 hg9 hat9 hy3 q3 g3 lq HD3
      have p0 := cell_blk HZ.out.res 0
      have p1 := cell_blk HZ.out.res 1
      have p2 := cell_blk HZ.out.res 2
      have p3 := cell_blk HZ.out.res 3
      have f0 := free_blk HZ.out.res 0
      have f1 := free_blk HZ.out.res 1
      have f2 := free_blk HZ.out.res 2
      have f3 := free_blk HZ.out.res 3
      have lp := blk_lt HZ.out.res
      have q0 := cell_blk HZ.out.box 0
      have q1 := cell_blk HZ.out.box 1
      have q2 := cell_blk HZ.out.box 2
      have q3 := cell_blk HZ.out.box 3
      have lq := blk_lt HZ.out.box
      have e0 := free_blk HZ.out.box 0
      have e1 := free_blk HZ.out.box 1
      have e2 := free_blk HZ.out.box 2
      have e3 := free_blk HZ.out.box 3
      have hne := HZ.out.ne
      have HEX := Lib.hid (HF.out.exit (.slice a1 T.ns.length c1) (.string ⟨T.y.toArray⟩) (.slice a2 T.rs.length c2) (.slice (some ⟨gy, 0, none⟩) (T.ys.length + 1) cy))
      go_wp2_with fail
      refine bodyPost_ret (v := .agg #[(.slice a1 T.ns.length c1), (.string ⟨T.y.toArray⟩), (.slice a2 T.rs.length c2), (.slice (some ⟨gy, 0, none⟩) (T.ys.length + 1) cy)]) ?_ rfl ⟨⟨T.ns, T.y, T.rs, T.ys ++ [1]⟩, _, (.slice a1 T.ns.length c1), (.slice a2 T.rs.length c2), (.slice (some ⟨gy, 0, none⟩) (T.ys.length + 1) cy), rfl, HEX.out.1, HSF.out, HEX.out.2⟩
      rw [results_oneD rfl]
      go_simp
    · obtain ⟨g2, cy, hv⟩ := Go.Joins.ownsRow_form HD3.out.own.2.1 (by omega)
      injection hv with hv hv2 hv3
      subst hv
      clear hv2 hv3
      have hk0 : (0 : Int) ≤ k := by omega
      have hk1 : (k : Int) < T.rs.length := by omega
      have HD4 := Lib.hid (HD3.out.laid (.cells #[] 3))
      have hxn : (w3.alloc (.cells #[] 3)).ownsRow w.heap.size 3 1 (.slice (some ⟨w3.heap.size, 0, none⟩) 0 0) ([] : List Int).length (intCells []) := World.ownsRow_made w3 #[] 0 HD3.out.grown.size (by unfold maxLen; omega) (by simp)
      have HF := Lib.hid (HD4.out.setR (k := k) hxn (fun j u q _ hu hub e => by
        have h1 := (HD3.out.own.2.2.1.lt hu hub).2
        have h2 : w3.heap.size = q := Option.some.inj e
        omega) (fun q hq e => by
        have h1 := (HD3.out.own.2.2.2.1.lt q e).2
        have h2 : w3.heap.size = q := Option.some.inj hq
        omega))
      have HSF : Hid (SmallB ⟨T.ns, T.y, T.rs.set k [], T.ys⟩) := Lib.hid ⟨HSM.out.1, by rw [List.length_set]; exact HSM.out.2.1, fun q hq => (by
        rcases List.mem_or_eq_of_mem_set hq with hq | hq
        · exact HSM.out.2.2.1 q hq
        · subst hq; simp), HSM.out.2.2.2.1, HSM.out.2.2.2.2.1, HSM.out.2.2.2.2.2⟩
      clear hxn
      have q2 := cell_blk HD3.out.box 2
      have lq := blk_lt HD3.out.box
      obtain ⟨⟨y0, hy0c⟩, hyf, hyl9⟩ := own_open HD4.out.own.2.1 hk
      go_upto_region 22 with fail
      clear q2 lq y0 hy0c hyf hyl9 HD3 HD4
      generalize hw10 : (w3.alloc (.cells #[] 3)).setCell ⟨g2, k, none⟩ (.slice (some ⟨w3.heap.size, 0, none⟩) 0 0) = w10 at HF ⊢
      clear hw10
      have p0 := cell_blk HF.out.res 0
      have p1 := cell_blk HF.out.res 1
      have p2 := cell_blk HF.out.res 2
      have p3 := cell_blk HF.out.res 3
      have f0 := free_blk HF.out.res 0
      have f1 := free_blk HF.out.res 1
      have f2 := free_blk HF.out.res 2
      have f3 := free_blk HF.out.res 3
      have lp := blk_lt HF.out.res
      have q0 := cell_blk HF.out.box 0
      have q1 := cell_blk HF.out.box 1
      have q2 := cell_blk HF.out.box 2
      have q3 := cell_blk HF.out.box 3
      have lq := blk_lt HF.out.box
      have e0 := free_blk HF.out.box 0
      have e1 := free_blk HF.out.box 1
      have e2 := free_blk HF.out.box 2
      have e3 := free_blk HF.out.box 3
      have hne := HF.out.ne
      have HEX := Lib.hid (HF.out.exit (.slice a1 T.ns.length c1) (.string ⟨T.y.toArray⟩) (.slice (some ⟨g2, 0, none⟩) T.rs.length c2) (.slice a3 T.ys.length c3))
      go_wp2_with fail
      refine bodyPost_ret (v := .agg #[(.slice a1 T.ns.length c1), (.string ⟨T.y.toArray⟩), (.slice (some ⟨g2, 0, none⟩) T.rs.length c2), (.slice a3 T.ys.length c3)]) ?_ rfl ⟨⟨T.ns, T.y, T.rs.set k [], T.ys⟩, _, (.slice a1 T.ns.length c1), (.slice (some ⟨g2, 0, none⟩) T.rs.length c2), (.slice a3 T.ys.length c3), rfl, HEX.out.1, HSF.out, HEX.out.2⟩
      rw [results_oneD rfl]
      go_simp
    · clear hns hrs hk hg8
      go_wp2_with fail
      go_loopg [76] (42 - T.rs.length) (fun g_ _ wr => ∃ (R : List (List Int)) (Y : List Int) (vl : List Value) (u2 u3 : Value), g_ = 42 - R.length ∧ 1 ≤ R.length ∧ R.length ≤ 41 ∧ Y.length = R.length ∧ (∀ r ∈ R, 0 < r.length ∧ r.length ≤ 4) ∧ DrT W w wr p w.heap.size ob #[.slice a1 T.ns.length c1, .string ⟨T.y.toArray⟩, u2, u3] ⟨T.ns, T.y, R, Y⟩ vl (.slice a1 T.ns.length c1) u2 u3)
      case atStart => exact ⟨T.rs, T.ys, vs, (.slice a2 T.rs.length c2), (.slice a3 T.ys.length c3), rfl, HRS0.out.1, by have := HRS0.out.2; omega, HYL.out, fun r hr => by rw [HRL.out r hr]; have := HNS0.out; omega, HD3.out⟩
      case round =>
        clear HD3
        obtain ⟨R, Y, vl, u2, u3, rfl, hR1, hR41, hYe, hRS, hD⟩ := hrel
        have HYE := Lib.hid hYe
        have HRS := Lib.hid hRS
        have HD := Lib.hid hD
        clear hYe hRS hD
        obtain ⟨g2, c2, hv⟩ := Go.Joins.ownsRow_form HD.out.own.2.1 (by exact hR1)
        obtain ⟨a3, c3, hv3⟩ := owns_form HD.out.own.2.2.2.1
        subst hv
        subst hv3
        obtain ⟨r0, hr0⟩ : ∃ r, R[0]? = some r := ⟨_, List.getElem?_eq_getElem (by omega)⟩
        have hvl : vl.length = R.length := by
          have := HD.out.own.2.2.1.1
          simpa using this
        obtain ⟨x0, hx0⟩ : ∃ x, vl[0]? = some x := ⟨_, List.getElem?_eq_getElem (by omega)⟩
        have hrl := HRS.out r0 (List.mem_of_getElem? hr0)
        have HR00 := Lib.hid hrl.1
        have HR04 := Lib.hid hrl.2
        have hrow0 := HD.out.own.2.2.1.2.1 0 x0 (intCells r0) hx0 (by rw [List.getElem?_map, hr0]; rfl)
        rw [intCells_len] at hrow0
        obtain ⟨g0, c0, hf⟩ := Go.Joins.ownsRow_form hrow0 (by exact hrl.1)
        subst hf
        have HX0 : Hid (vl[0]? = some (.slice (some ⟨g0, 0, none⟩) r0.length c0)) := Lib.hid hx0
        have HI0 : Hid ((R.map intCells)[0]? = some (intCells r0)) := Lib.hid (by rw [List.getElem?_map, hr0]; rfl)
        have HRL2 := Lib.hid hR41
        have HYE2 := Lib.hid (show Y.length ≤ 41 by rw [HYE.out]; exact hR41)
        have hRi : (0 : Int) < R.length := by omega
        have hRn : 0 < R.length := hR1
        clear hx0 hvl hrl hrow0 hr0
        have hS0 : (fun w' => w'.cell? ⟨ob, 2, none⟩ = some (.slice (some ⟨g2, 0, none⟩) R.length c2) ∧ DrT W w w' p w.heap.size ob #[.slice a1 T.ns.length c1, .string ⟨T.y.toArray⟩, (.slice (some ⟨g2, 0, none⟩) R.length c2), (.slice a3 Y.length c3)] ⟨T.ns, T.y, R, Y⟩ vl (.slice a1 T.ns.length c1) (.slice (some ⟨g2, 0, none⟩) R.length c2) (.slice a3 Y.length c3)) wr.drew := ⟨cell_blk HD.out.box 2, HD.out.draw HD.out.cur.drew (grownBy_drew (grownBy_refl _ _))⟩
        go_upto_region 19 with fail
        refine wp_region_noPanic ?_
        refine wp_region_held_drew (S := (fun w' => w'.cell? ⟨ob, 2, none⟩ = some (.slice (some ⟨g2, 0, none⟩) R.length c2) ∧ DrT W w w' p w.heap.size ob #[.slice a1 T.ns.length c1, .string ⟨T.y.toArray⟩, (.slice (some ⟨g2, 0, none⟩) R.length c2), (.slice a3 Y.length c3)] ⟨T.ns, T.y, R, Y⟩ vl (.slice a1 T.ns.length c1) (.slice (some ⟨g2, 0, none⟩) R.length c2) (.slice a3 Y.length c3))) (by kernel_rfl) hS0 (fun hHeld => ?_)
        refine wpAnyH_take (i := 0) (oi := ?o33) (v := ?v33) ?hi33 ?hs33 ?hf33 ?hr33 ?hQ33 ?hy33 ?hS33 ?rest33
        case hi33 => rfl
        case hs33 => kernel_rfl
        case hf33 => kernel_rfl
        case hr33 => kernel_rfl
        case hQ33 => exact fun _ _ _ h => h
        case hS33 => assumption
        case hy33 =>
          refine Or.inl ⟨by kernel_rfl, ?_⟩
          intro w' hSw
          (try dsimp only at hSw)
          go_simp
          (try rfl)
        (try simp only [List.getElem_toArray, List.getElem_cons_zero, Act.put, List.setIfInBounds_toArray, List.set_cons_zero, List.set_cons_succ])
        refine wpAnyH_take (i := 1) (oi := ?o34) (v := ?v34) ?hi34 ?hs34 ?hf34 ?hr34 ?hQ34 ?hy34 ?hS34 ?rest34
        case hi34 => rfl
        case hs34 => kernel_rfl
        case hf34 => kernel_rfl
        case hr34 => kernel_rfl
        case hQ34 => exact fun _ _ _ h => h
        case hS34 => assumption
        case hy34 =>
          refine Or.inl ⟨by kernel_rfl, ?_⟩
          intro w' hSw
          (try dsimp only at hSw)
          go_simp
          (try rfl)
        (try simp only [List.getElem_toArray, List.getElem_cons_succ, List.getElem_cons_zero, Act.put, List.setIfInBounds_toArray, List.set_cons_zero, List.set_cons_succ])
        refine wpAnyH_take (i := 2) (oi := ?o35) (v := ?v35) ?hi35 ?hs35 ?hf35 ?hr35 ?hQ35 ?hy35 ?hS35 ?rest35
        case hi35 => rfl
        case hs35 => kernel_rfl
        case hf35 => kernel_rfl
        case hr35 => kernel_rfl
        case hQ35 => exact fun _ _ _ h => h
        case hS35 => assumption
        case hy35 =>
          refine Or.inl ⟨by kernel_rfl, ?_⟩
          intro w' hSw
          (try dsimp only at hSw)
          go_simp
          (try rfl)
        (try simp only [List.getElem_toArray, List.getElem_cons_succ, List.getElem_cons_zero, Act.put, List.setIfInBounds_toArray, List.set_cons_zero, List.set_cons_succ])
        refine wpAnyH_take (i := 3) (oi := ?o36) (v := ?v36) ?hi36 ?hs36 ?hf36 ?hr36 ?hQ36 ?hy36 ?hS36 ?rest36
        case hi36 => rfl
        case hs36 => kernel_rfl
        case hf36 => kernel_rfl
        case hr36 => kernel_rfl
        case hQ36 => exact fun _ _ _ h => h
        case hS36 => assumption
        case hy36 =>
          refine Or.inl ⟨by kernel_rfl, ?_⟩
          intro w' hSw
          (try dsimp only at hSw)
          go_simp
          (try rfl)
        (try simp only [List.getElem_toArray, List.getElem_cons_succ, List.getElem_cons_zero, Act.put, List.setIfInBounds_toArray, List.set_cons_zero, List.set_cons_succ])
        refine wpAnyH_ready (rs := [4]) (by kernel_rfl) (by simp) ?_
        refine AllReadyH.cons rfl (fun K hK => ?_) AllReadyH.nil
        go_simp
        refine (l1Below W _ p 2 (by omega) (by omega) hHeld.2.cur).mono ?_
        rintro e w4 ⟨⟨m, hm, rfl⟩, hc4, hg4⟩
        have hwM : IntKind.i64.wrap (40 + (m : Int)) = 40 + (m : Int) := by rw [IntKind.wrap_i64]; omega
        have HD4 := Lib.hid (hHeld.2.draw hc4 hg4)
        clear hc4 hg4
        refine hK.out _ _ ?_ (fun hHeld => ?_)
        · exact ⟨cell_blk HD4.out.box 2, HD4.out⟩
        clear hK K
        (try simp only [List.getElem_toArray, List.getElem_cons_succ, List.getElem_cons_zero, Act.put, List.setIfInBounds_toArray, List.set_cons_zero, List.set_cons_succ])
        refine wpAnyH_ready (rs := [5]) (by kernel_rfl) (by simp) ?_
        refine AllReadyH.cons rfl (fun K hK => ?_) AllReadyH.nil
        go_simp
        refine hK.out _ _ ?_ (fun hHeld => ?_)
        · exact hHeld
        clear hK K
        (try simp only [List.getElem_toArray, List.getElem_cons_succ, List.getElem_cons_zero, Act.put, List.setIfInBounds_toArray, List.set_cons_zero, List.set_cons_succ])
        refine wpAnyH_ready (rs := [6]) (by kernel_rfl) (by simp) ?_
        refine AllReadyH.cons rfl (fun K hK => ?_) AllReadyH.nil
        go_simp
        refine hK.out _ _ ?_ (fun hHeld => ?_)
        · exact hHeld
        clear hK K
        (try simp only [List.getElem_toArray, List.getElem_cons_succ, List.getElem_cons_zero, Act.put, List.setIfInBounds_toArray, List.set_cons_zero, List.set_cons_succ])
        refine wpAnyH_done (by kernel_rfl) ?_ _
        refine NoPanic.normal ?_
        clear hHeld hS0 HD
        by_cases hlt : (R.length : Int) < 40 + m
        · have HRB := Lib.hid (show R.length ≤ 40 by omega)
          have HYB := Lib.hid (show Y.length ≤ 40 by rw [HYE.out]; exact HRB.out)
          have HD5 := Lib.hid (HD4.out.draw HD4.out.cur.drew (grownBy_drew (grownBy_refl _ _)))
          have HR0 := Lib.hid HD5.out.start
          have hrA := HR0.out.st.own.2.2.1.2.1 0 (.slice (some ⟨g0, 0, none⟩) r0.length c0) (intCells r0) HX0.out HI0.out
          rw [intCells_len] at hrA
          have hS0 : (fun w' => w'.cell? ⟨ob, 2, none⟩ = some (.slice (some ⟨g2, 0, none⟩) R.length c2)) w4.drew ∧ (fun _ => True) w4.drew := ⟨cell_blk HD5.out.box 2, trivial⟩
          clear HD4
          go_upto_region 20 with fail
          refine wp_region_noPanic ?_
          refine wp_region_K (S := (fun w' => w'.cell? ⟨ob, 2, none⟩ = some (.slice (some ⟨g2, 0, none⟩) R.length c2))) (H := (fun _ => True)) (k := 11) (by kernel_rfl) hS0 (fun hHeld => ?_)
          clear hS0
          refine anyK_take (i := 0) (oi := ?o37) (v := ?v37) ?hi37 ?hs37 ?hf37 ?hr37 ?hQ37 ?hw37 ?hy37 ?hS37 ?rest37
          case hi37 => rfl
          case hs37 => kernel_rfl
          case hf37 => kernel_rfl
          case hr37 => kernel_rfl
          case hQ37 => exact fun _ _ _ h => h
          case hw37 => kernel_rfl
          case hS37 => assumption
          case hy37 =>
            refine Or.inl ⟨by kernel_rfl, ?_⟩
            intro w' hSw
            (try dsimp only at hSw)
            go_simp
            (try rfl)
          (try simp only [List.getElem_toArray, List.getElem_cons_zero, Act.put, List.setIfInBounds_toArray, List.set_cons_zero, List.set_cons_succ])
          refine anyK_take (i := 1) (oi := ?o38) (v := ?v38) ?hi38 ?hs38 ?hf38 ?hr38 ?hQ38 ?hw38 ?hy38 ?hS38 ?rest38
          case hi38 => rfl
          case hs38 => kernel_rfl
          case hf38 => kernel_rfl
          case hr38 => kernel_rfl
          case hQ38 => exact fun _ _ _ h => h
          case hw38 => kernel_rfl
          case hS38 => assumption
          case hy38 =>
            refine Or.inl ⟨by kernel_rfl, ?_⟩
            intro w' hSw
            (try dsimp only at hSw)
            go_simp
            (try rfl)
          (try simp only [List.getElem_toArray, List.getElem_cons_succ, List.getElem_cons_zero, Act.put, List.setIfInBounds_toArray, List.set_cons_zero, List.set_cons_succ])
          refine anyK_take (i := 3) (oi := ?o39) (v := ?v39) ?hi39 ?hs39 ?hf39 ?hr39 ?hQ39 ?hw39 ?hy39 ?hS39 ?rest39
          case hi39 => rfl
          case hs39 => kernel_rfl
          case hf39 => kernel_rfl
          case hr39 => kernel_rfl
          case hQ39 => exact fun _ _ _ h => h
          case hw39 => kernel_rfl
          case hS39 => assumption
          case hy39 =>
            refine Or.inl ⟨by kernel_rfl, ?_⟩
            intro w' hSw
            (try dsimp only at hSw)
            go_simp
            (try rfl)
          (try simp only [List.getElem_toArray, List.getElem_cons_succ, List.getElem_cons_zero, Act.put, List.setIfInBounds_toArray, List.set_cons_zero, List.set_cons_succ])
          refine anyK_take (i := 4) (oi := ?o40) (v := ?v40) ?hi40 ?hs40 ?hf40 ?hr40 ?hQ40 ?hw40 ?hy40 ?hS40 ?rest40
          case hi40 => rfl
          case hs40 => kernel_rfl
          case hf40 => kernel_rfl
          case hr40 => kernel_rfl
          case hQ40 => exact fun _ _ _ h => h
          case hw40 => kernel_rfl
          case hS40 => assumption
          case hy40 =>
            refine Or.inl ⟨by kernel_rfl, ?_⟩
            intro w' hSw
            (try dsimp only at hSw)
            go_simp
            (try rfl)
          (try simp only [List.getElem_toArray, List.getElem_cons_succ, List.getElem_cons_zero, Act.put, List.setIfInBounds_toArray, List.set_cons_zero, List.set_cons_succ])
          refine anyK_take (i := 5) (oi := ?o41) (v := ?v41) ?hi41 ?hs41 ?hf41 ?hr41 ?hQ41 ?hw41 ?hy41 ?hS41 ?rest41
          case hi41 => rfl
          case hs41 => kernel_rfl
          case hf41 => kernel_rfl
          case hr41 => kernel_rfl
          case hQ41 => exact fun _ _ _ h => h
          case hw41 => kernel_rfl
          case hS41 => assumption
          case hy41 =>
            refine Or.inl ⟨by kernel_rfl, ?_⟩
            intro w' hSw
            (try dsimp only at hSw)
            go_simp
            (try rfl)
          (try simp only [List.getElem_toArray, List.getElem_cons_succ, List.getElem_cons_zero, Act.put, List.setIfInBounds_toArray, List.set_cons_zero, List.set_cons_succ])
          refine anyK_ready (rs := [2, 6]) (by kernel_rfl) (by simp) ?_
          refine allK_cons rfl (fun K hK => ?_) (allK_cons rfl (fun K hK => ?_) allK_nil)
          · go_simp
            refine hK.out _ _ (⟨cell_blk HR0.out.st.box 2, trivial⟩) (fun hHeld => ?_)
            clear hK K
            (try simp only [List.getElem_toArray, List.getElem_cons_succ, List.getElem_cons_zero, Act.put, List.setIfInBounds_toArray, List.set_cons_zero, List.set_cons_succ])
            refine anyK_ready (rs := [6]) (by kernel_rfl) (by simp) ?_
            refine allK_cons rfl (fun K hK => ?_) allK_nil
            have hxA : (w4.alloc (.cells #[] 3)).drew.cell? ⟨g2, 0, none⟩ = some (.slice (some ⟨g0, 0, none⟩) r0.length c0) := (HR0.out.st.own.2.1.cellAt 0 (by omega)).trans HX0.out
            go_simp
            refine hK.out _ _ (⟨cell_blk HR0.out.st.box 2, trivial⟩) (fun hHeld => ?_)
            clear hK K
            (try simp only [List.getElem_toArray, List.getElem_cons_succ, List.getElem_cons_zero, Act.put, List.setIfInBounds_toArray, List.set_cons_zero, List.set_cons_succ])
            clear hxA
            refine anyK_ready (rs := [7]) (by kernel_rfl) (by simp) ?_
            refine allK_cons rfl (fun K hK => ?_) allK_nil
            have hnA := row_newsB hrA
            refine step_append_lies _ rfl (.tmp 85) (.tmp 89) 24 rfl w4.drew.heap.size 3 iI (.int .i64 0) 1 8 Try.underlying24 gi gz0 gz1 gz2 rfl (by decide) (.slice (some ⟨w4.heap.size, 0, none⟩) 0 0) 0 [] (by simp [Act.eval]) HR0.out.row ⟨g0, 0, none⟩ r0.length c0 (intCells r0) (by simp [Act.eval]) (by rw [intCells_len, Nat.mul_one]) hnA (intCells_oneB r0) HR00.out (by have := HR04.out; unfold maxLen; omega) (by have := HR04.out; omega) HR0.out.hi _ rfl ?_
            intro g7 c7 w7 hown7 hg7 _ _
            rw [Nat.zero_add, List.nil_append] at hown7
            rw [Nat.zero_add]
            have HR7 := Lib.hid (HR0.out.toB hg7 hown7)
            refine hK.out _ _ (⟨cell_blk HR7.out.st.box 2, trivial⟩) (fun hHeld => ?_)
            clear hK K
            (try simp only [List.getElem_toArray, List.getElem_cons_succ, List.getElem_cons_zero, Act.put, List.setIfInBounds_toArray, List.set_cons_zero, List.set_cons_succ])
            refine anyK_ready (rs := [8]) (by kernel_rfl) (by simp) ?_
            refine allK_cons rfl (fun K hK => ?_) allK_nil
            go_simp
            have HR8 := Lib.hid (HR7.out.laid (.cells #[.slice (some ⟨g7, 0, none⟩) r0.length c7] 24))
            have hb8 := alloc_blk w7 #[.slice (some ⟨g7, 0, none⟩) r0.length c7] 24
            refine hK.out _ _ (⟨cell_blk HR8.out.st.box 2, trivial⟩) (fun hHeld => ?_)
            clear hK K
            (try simp only [List.getElem_toArray, List.getElem_cons_succ, List.getElem_cons_zero, Act.put, List.setIfInBounds_toArray, List.set_cons_zero, List.set_cons_succ])
            refine anyK_ready (rs := [9]) (by kernel_rfl) (by simp) ?_
            refine allK_cons rfl (fun K hK => ?_) allK_nil
            refine step_append_lies _ rfl (.tmp 84) (.tmp 91) 32 rfl w.heap.size 24 iL (.slice none 0 0) 1 24 Try.underlying32 gj gy0 gy1 gy2 rfl (by decide) (.slice (some ⟨g2, 0, none⟩) R.length c2) R.length vl (by simp [Act.eval]) HR8.out.st.own.2.1 ⟨w7.heap.size, 0, none⟩ 1 1 [.slice (some ⟨g7, 0, none⟩) r0.length c7] (by simp [Act.eval]) rfl (news_blkB hb8) (by intro y hy; simp at hy; subst hy; rfl) (by omega) (by have := HRB.out; unfold maxLen; omega) (by have := HRB.out; omega) HR8.out.st.grown.size _ rfl ?_
            intro g9 c9 w9 hown9 hg9 _ _
            have HP := Lib.hid (HR8.out.push hg9 hown9)
            refine hK.out _ _ (⟨cell_blk HP.out.box 2, trivial⟩) (fun hHeld => ?_)
            clear hK K
            (try simp only [List.getElem_toArray, List.getElem_cons_succ, List.getElem_cons_zero, Act.put, List.setIfInBounds_toArray, List.set_cons_zero, List.set_cons_succ])
            refine anyK_take (i := 10) (oi := ?o31) (v := ?v31) ?hi31 ?hs31 ?hf31 ?hr31 ?hQ31 ?hw31 ?hy31 ?hS31 ?rest31
            case hi31 => rfl
            case hs31 => kernel_rfl
            case hf31 => kernel_rfl
            case hr31 => kernel_rfl
            case hQ31 => exact fun _ _ _ h => h
            case hw31 => kernel_rfl
            case hS31 => assumption
            case hy31 =>
              refine Or.inl ⟨by kernel_rfl, ?_⟩
              intro w' hSw
              (try dsimp only at hSw)
              go_simp
              (try rfl)
            (try simp only [List.getElem_toArray, List.getElem_cons_succ, List.getElem_cons_zero, Act.put, List.setIfInBounds_toArray, List.set_cons_zero, List.set_cons_succ])
            have d2 := cell_blk HP.out.box 2
            have e2 := free_blk HP.out.box 2
            have ld := blk_lt HP.out.box
            clear hHeld
            refine anyK_ready (rs := [11]) (by kernel_rfl) (by simp) ?_
            refine allK_past rfl (by kernel_rfl) (fun K hK => ?_)
            go_simp
            refine hK.out _ _ (trivial) (fun hHeld => ?_)
            clear hK K
            (try simp only [List.getElem_toArray, List.getElem_cons_succ, List.getElem_cons_zero, Act.put, List.setIfInBounds_toArray, List.set_cons_zero, List.set_cons_succ])
            refine anyK_done (by kernel_rfl) ?_ _
            refine NoPanic.normal ?_
            have HS : Hid (DrT W w (w9.setCell ⟨ob, 2, none⟩ (.slice (some ⟨g9, 0, none⟩) (R.length + 1) c9)) p w.heap.size ob #[.slice a1 T.ns.length c1, .string ⟨T.y.toArray⟩, (.slice (some ⟨g9, 0, none⟩) (R.length + 1) c9), (.slice a3 Y.length c3)] ⟨T.ns, T.y, R ++ [r0], Y⟩ (vl ++ [.slice (some ⟨g7, 0, none⟩) r0.length c7]) (.slice a1 T.ns.length c1) (.slice (some ⟨g9, 0, none⟩) (R.length + 1) c9) (.slice a3 Y.length c3)) := Lib.hid (HP.out.set 2 (.slice (some ⟨g9, 0, none⟩) (R.length + 1) c9))
            clear HP d2 e2 ld HR8 HR7 HR0 hb8 hown9 hg9 hown7 hg7 hnA hrA
            generalize hw10 : w9.setCell ⟨ob, 2, none⟩ (.slice (some ⟨g9, 0, none⟩) (R.length + 1) c9) = w10 at HS ⊢
            clear hw10
            have hy3 : w10.ownsRow w.heap.size 3 1 (.slice a3 Y.length c3) Y.length (intCells Y) := HS.out.own.2.2.2.1
            have q3 := cell_blk HS.out.box 3
            have g3 := free_blk HS.out.box 3
            have lq := blk_lt HS.out.box
            have hYl9 := HYB.out
            go_wp2_with (at_builtin; refine wpList_append_own_at _ rfl _ _ 24 rfl w.heap.size 3 iI (.int .i64 0) 1 8 Try.underlying24 gi gz0 gz1 gz2 rfl (by decide) _ _ _ rfl (hy3.alloc _) ⟨w10.heap.size, 0, none⟩ 1 1 [.int .i64 0] rfl rfl ?a2 ?b2 ?c2 ?d2 ?e2 ?_)
            try (case a2 => exact news_one)
            case b2 => first | (intro u hu; simp at hu; subst hu; rfl) | rfl
            case c2 => unfold maxLen; omega
            case d2 => omega
            case e2 => have := HS.out.grown.size; (try simp); omega
            intro v5 w11 hown11 hg11 _ hat11
            obtain ⟨gy, cy, hv5⟩ := Go.Joins.ownsRow_form hown11 (by omega)
            subst hv5
            have HZ := Lib.hid ((HS.out.laid (.cells #[.int .i64 0] 3)).pushY hg11 hown11 (by
              rcases hat11 with h | h
              · exact Or.inl h.symm
              · exact Or.inr (by have e9 : gy = w10.heap.size + 1 := Option.some.inj h; rw [sz_alloc]; omega)))
            clear hown11 hg11 hat11 hy3 q3 g3 lq hYl9 HS
            have d3 := cell_blk HZ.out.box 3
            have e3 := free_blk HZ.out.box 3
            have ld := blk_lt HZ.out.box
            go_wp2_with fail
            go_roundg (42 - (R.length + 1))
            case measure => have := HRB.out; omega
            case rel => exact ⟨R ++ [r0], Y ++ [0], vl ++ [.slice (some ⟨g7, 0, none⟩) r0.length c7], .slice (some ⟨g9, 0, none⟩) (R.length + 1) c9, .slice (some ⟨gy, 0, none⟩) (Y.length + 1) cy, by rw [List.length_append]; rfl, by rw [List.length_append]; omega, by rw [List.length_append, List.length_singleton]; have := HRB.out; omega, by rw [List.length_append, List.length_append, HYE.out]; rfl, (by
              intro r hr
              rcases List.mem_append.1 hr with hr | hr
              · exact HRS.out r hr
              · obtain rfl : r = r0 := by simpa using hr
                exact ⟨HR00.out, HR04.out⟩), HZ.out.set 3 _⟩
          · have hxA := (HD5.out.own.2.1.cellAt 0 (by omega)).trans HX0.out
            go_simp
            refine hK.out _ _ (⟨cell_blk HD5.out.box 2, trivial⟩) (fun hHeld => ?_)
            clear hK K
            (try simp only [List.getElem_toArray, List.getElem_cons_succ, List.getElem_cons_zero, Act.put, List.setIfInBounds_toArray, List.set_cons_zero, List.set_cons_succ])
            clear hxA
            refine anyK_ready (rs := [2]) (by kernel_rfl) (by simp) ?_
            refine allK_cons rfl (fun K hK => ?_) allK_nil
            go_simp
            refine hK.out _ _ (⟨cell_blk HR0.out.st.box 2, trivial⟩) (fun hHeld => ?_)
            clear hK K
            (try simp only [List.getElem_toArray, List.getElem_cons_succ, List.getElem_cons_zero, Act.put, List.setIfInBounds_toArray, List.set_cons_zero, List.set_cons_succ])
            refine anyK_ready (rs := [7]) (by kernel_rfl) (by simp) ?_
            refine allK_cons rfl (fun K hK => ?_) allK_nil
            have hnA := row_newsB hrA
            refine step_append_lies _ rfl (.tmp 85) (.tmp 89) 24 rfl w4.drew.heap.size 3 iI (.int .i64 0) 1 8 Try.underlying24 gi gz0 gz1 gz2 rfl (by decide) (.slice (some ⟨w4.heap.size, 0, none⟩) 0 0) 0 [] (by simp [Act.eval]) HR0.out.row ⟨g0, 0, none⟩ r0.length c0 (intCells r0) (by simp [Act.eval]) (by rw [intCells_len, Nat.mul_one]) hnA (intCells_oneB r0) HR00.out (by have := HR04.out; unfold maxLen; omega) (by have := HR04.out; omega) HR0.out.hi _ rfl ?_
            intro g7 c7 w7 hown7 hg7 _ _
            rw [Nat.zero_add, List.nil_append] at hown7
            rw [Nat.zero_add]
            have HR7 := Lib.hid (HR0.out.toB hg7 hown7)
            refine hK.out _ _ (⟨cell_blk HR7.out.st.box 2, trivial⟩) (fun hHeld => ?_)
            clear hK K
            (try simp only [List.getElem_toArray, List.getElem_cons_succ, List.getElem_cons_zero, Act.put, List.setIfInBounds_toArray, List.set_cons_zero, List.set_cons_succ])
            refine anyK_ready (rs := [8]) (by kernel_rfl) (by simp) ?_
            refine allK_cons rfl (fun K hK => ?_) allK_nil
            go_simp
            have HR8 := Lib.hid (HR7.out.laid (.cells #[.slice (some ⟨g7, 0, none⟩) r0.length c7] 24))
            have hb8 := alloc_blk w7 #[.slice (some ⟨g7, 0, none⟩) r0.length c7] 24
            refine hK.out _ _ (⟨cell_blk HR8.out.st.box 2, trivial⟩) (fun hHeld => ?_)
            clear hK K
            (try simp only [List.getElem_toArray, List.getElem_cons_succ, List.getElem_cons_zero, Act.put, List.setIfInBounds_toArray, List.set_cons_zero, List.set_cons_succ])
            refine anyK_ready (rs := [9]) (by kernel_rfl) (by simp) ?_
            refine allK_cons rfl (fun K hK => ?_) allK_nil
            refine step_append_lies _ rfl (.tmp 84) (.tmp 91) 32 rfl w.heap.size 24 iL (.slice none 0 0) 1 24 Try.underlying32 gj gy0 gy1 gy2 rfl (by decide) (.slice (some ⟨g2, 0, none⟩) R.length c2) R.length vl (by simp [Act.eval]) HR8.out.st.own.2.1 ⟨w7.heap.size, 0, none⟩ 1 1 [.slice (some ⟨g7, 0, none⟩) r0.length c7] (by simp [Act.eval]) rfl (news_blkB hb8) (by intro y hy; simp at hy; subst hy; rfl) (by omega) (by have := HRB.out; unfold maxLen; omega) (by have := HRB.out; omega) HR8.out.st.grown.size _ rfl ?_
            intro g9 c9 w9 hown9 hg9 _ _
            have HP := Lib.hid (HR8.out.push hg9 hown9)
            refine hK.out _ _ (⟨cell_blk HP.out.box 2, trivial⟩) (fun hHeld => ?_)
            clear hK K
            (try simp only [List.getElem_toArray, List.getElem_cons_succ, List.getElem_cons_zero, Act.put, List.setIfInBounds_toArray, List.set_cons_zero, List.set_cons_succ])
            refine anyK_take (i := 10) (oi := ?o32) (v := ?v32) ?hi32 ?hs32 ?hf32 ?hr32 ?hQ32 ?hw32 ?hy32 ?hS32 ?rest32
            case hi32 => rfl
            case hs32 => kernel_rfl
            case hf32 => kernel_rfl
            case hr32 => kernel_rfl
            case hQ32 => exact fun _ _ _ h => h
            case hw32 => kernel_rfl
            case hS32 => assumption
            case hy32 =>
              refine Or.inl ⟨by kernel_rfl, ?_⟩
              intro w' hSw
              (try dsimp only at hSw)
              go_simp
              (try rfl)
            (try simp only [List.getElem_toArray, List.getElem_cons_succ, List.getElem_cons_zero, Act.put, List.setIfInBounds_toArray, List.set_cons_zero, List.set_cons_succ])
            have d2 := cell_blk HP.out.box 2
            have e2 := free_blk HP.out.box 2
            have ld := blk_lt HP.out.box
            clear hHeld
            refine anyK_ready (rs := [11]) (by kernel_rfl) (by simp) ?_
            refine allK_past rfl (by kernel_rfl) (fun K hK => ?_)
            go_simp
            refine hK.out _ _ (trivial) (fun hHeld => ?_)
            clear hK K
            (try simp only [List.getElem_toArray, List.getElem_cons_succ, List.getElem_cons_zero, Act.put, List.setIfInBounds_toArray, List.set_cons_zero, List.set_cons_succ])
            refine anyK_done (by kernel_rfl) ?_ _
            refine NoPanic.normal ?_
            have HS : Hid (DrT W w (w9.setCell ⟨ob, 2, none⟩ (.slice (some ⟨g9, 0, none⟩) (R.length + 1) c9)) p w.heap.size ob #[.slice a1 T.ns.length c1, .string ⟨T.y.toArray⟩, (.slice (some ⟨g9, 0, none⟩) (R.length + 1) c9), (.slice a3 Y.length c3)] ⟨T.ns, T.y, R ++ [r0], Y⟩ (vl ++ [.slice (some ⟨g7, 0, none⟩) r0.length c7]) (.slice a1 T.ns.length c1) (.slice (some ⟨g9, 0, none⟩) (R.length + 1) c9) (.slice a3 Y.length c3)) := Lib.hid (HP.out.set 2 (.slice (some ⟨g9, 0, none⟩) (R.length + 1) c9))
            clear HP d2 e2 ld HR8 HR7 HR0 hb8 hown9 hg9 hown7 hg7 hnA hrA
            generalize hw10 : w9.setCell ⟨ob, 2, none⟩ (.slice (some ⟨g9, 0, none⟩) (R.length + 1) c9) = w10 at HS ⊢
            clear hw10
            have hy3 : w10.ownsRow w.heap.size 3 1 (.slice a3 Y.length c3) Y.length (intCells Y) := HS.out.own.2.2.2.1
            have q3 := cell_blk HS.out.box 3
            have g3 := free_blk HS.out.box 3
            have lq := blk_lt HS.out.box
            have hYl9 := HYB.out
            go_wp2_with (at_builtin; refine wpList_append_own_at _ rfl _ _ 24 rfl w.heap.size 3 iI (.int .i64 0) 1 8 Try.underlying24 gi gz0 gz1 gz2 rfl (by decide) _ _ _ rfl (hy3.alloc _) ⟨w10.heap.size, 0, none⟩ 1 1 [.int .i64 0] rfl rfl ?a3 ?b3 ?c3 ?d3 ?e3 ?_)
            try (case a3 => exact news_one)
            case b3 => first | (intro u hu; simp at hu; subst hu; rfl) | rfl
            case c3 => unfold maxLen; omega
            case d3 => omega
            case e3 => have := HS.out.grown.size; (try simp); omega
            intro v5 w11 hown11 hg11 _ hat11
            obtain ⟨gy, cy, hv5⟩ := Go.Joins.ownsRow_form hown11 (by omega)
            subst hv5
            have HZ := Lib.hid ((HS.out.laid (.cells #[.int .i64 0] 3)).pushY hg11 hown11 (by
              rcases hat11 with h | h
              · exact Or.inl h.symm
              · exact Or.inr (by have e9 : gy = w10.heap.size + 1 := Option.some.inj h; rw [sz_alloc]; omega)))
            clear hown11 hg11 hat11 hy3 q3 g3 lq hYl9 HS
            have d3 := cell_blk HZ.out.box 3
            have e3 := free_blk HZ.out.box 3
            have ld := blk_lt HZ.out.box
            go_wp2_with fail
            go_roundg (42 - (R.length + 1))
            case measure => have := HRB.out; omega
            case rel => exact ⟨R ++ [r0], Y ++ [0], vl ++ [.slice (some ⟨g7, 0, none⟩) r0.length c7], .slice (some ⟨g9, 0, none⟩) (R.length + 1) c9, .slice (some ⟨gy, 0, none⟩) (Y.length + 1) cy, by rw [List.length_append]; rfl, by rw [List.length_append]; omega, by rw [List.length_append, List.length_singleton]; have := HRB.out; omega, by rw [List.length_append, List.length_append, HYE.out]; rfl, (by
              intro r hr
              rcases List.mem_append.1 hr with hr | hr
              · exact HRS.out r hr
              · obtain rfl : r = r0 := by simpa using hr
                exact ⟨HR00.out, HR04.out⟩), HZ.out.set 3 _⟩
        · have HSF : Hid (SmallB ⟨T.ns, T.y, R, Y⟩) := Lib.hid ⟨HSM.out.1, by have := HRL2.out; show R.length ≤ 1024; omega, fun q hq => (by have := (HRS.out q hq).2; omega), by have := HYE2.out; show Y.length ≤ 1024; omega, HSM.out.2.2.2.2.1, HSM.out.2.2.2.2.2⟩
          have p0 := cell_blk HD4.out.res 0
          have p1 := cell_blk HD4.out.res 1
          have p2 := cell_blk HD4.out.res 2
          have p3 := cell_blk HD4.out.res 3
          have f0 := free_blk HD4.out.res 0
          have f1 := free_blk HD4.out.res 1
          have f2 := free_blk HD4.out.res 2
          have f3 := free_blk HD4.out.res 3
          have lp := blk_lt HD4.out.res
          have q0 := cell_blk HD4.out.box 0
          have q1 := cell_blk HD4.out.box 1
          have q2 := cell_blk HD4.out.box 2
          have q3 := cell_blk HD4.out.box 3
          have lq := blk_lt HD4.out.box
          have e0 := free_blk HD4.out.box 0
          have e1 := free_blk HD4.out.box 1
          have e2 := free_blk HD4.out.box 2
          have e3 := free_blk HD4.out.box 3
          have hne := HD4.out.ne
          have HEX := Lib.hid (HD4.out.exit (.slice a1 T.ns.length c1) (.string ⟨T.y.toArray⟩) (.slice (some ⟨g2, 0, none⟩) R.length c2) (.slice a3 Y.length c3))
          go_wp2_with fail
          refine bodyPost_ret (v := .agg #[(.slice a1 T.ns.length c1), (.string ⟨T.y.toArray⟩), (.slice (some ⟨g2, 0, none⟩) R.length c2), (.slice a3 Y.length c3)]) ?_ rfl ⟨⟨T.ns, T.y, R, Y⟩, _, (.slice a1 T.ns.length c1), (.slice (some ⟨g2, 0, none⟩) R.length c2), (.slice a3 Y.length c3), rfl, HEX.out.1, HSF.out, HEX.out.2⟩
          rw [results_oneD rfl]
          go_simp
end Go.Proofs.Ytgknkjiifcnkpaa
