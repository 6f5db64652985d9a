/-
  The draws of tables: what a walk keeps (the cursor, the box of the table, its parts, the row that is drawn, the result's box).
-/
import Derived.Test.YticeagjonfifbaaTabP
import Derived.Test.YticeagjonfifbaaTurn
import Derived.Test.YticeagjonfifbaaSmV
namespace Go.Proofs.Yticeagjonfifbaa
open Go.RowKit

/-- The cursor stands where others are written. -/
theorem Cur.grownT {W w w' : World} {p : Nat} {r : Option Nat} (h : Cur W w p) (hg : w.grownBy w' r) (hr : ∀ k, r = some k → W.heap.size ≤ k ∧ k ≠ p) : Cur W w' p := by
  have hlt := h.lt
  obtain ⟨hp, hB, v, n, i, x, hb, hi, h0, h1, hblk⟩ := h
  exact ⟨hp, hB.grown hg hB.size (fun k hk => (hr k hk).1), v, n, i, x, hb, hi, h0, h1, (hg.block p hlt (fun e => (hr p e.symm).2 rfl)).trans hblk⟩
theorem Cur.blkT {W w : World} {p : Nat} (h : Cur W w p) : ∃ cs, w.heap[p]? = some (.cells cs 69 (0, 0)) := by
  obtain ⟨_, _, v, n, i, x, _, _, _, _, hblk⟩ := h
  exact ⟨_, hblk⟩
theorem blk_far {w w' : World} {b p : Nat} {cs cs' : Array Value} {T T' : TypeId} (h : w.heap[b]? = some (.cells cs T (0, 0))) (hp : w.heap[p]? = some (.cells cs' T' (0, 0))) (hT : T ≠ T') (hg : w.grownBy w' (some p)) : w'.heap[b]? = some (.cells cs T (0, 0)) := by
  rw [hg.block b (blk_lt h) (fun e => ?_)]
  · exact h
  · obtain rfl := Option.some.inj e
    rw [h] at hp
    injection hp with hp
    injection hp with _ hp
    exact hT hp
/-- A draw leaves a table be. -/
theorem TabOwn.draw {W wr w' : World} {p base : Nat} {T : Tab} {vs : List Value} {u1 u2 u3 : Value} (h : TabOwn wr base T vs u1 u2 u3) (hc : Cur W wr p) (hg : wr.grownBy w' (some p)) : TabOwn w' base T vs u1 u2 u3 := by
  obtain ⟨cs, hb⟩ := hc.blkT
  have ne := h.ne hb (by decide) (by decide) (by decide)
  exact ⟨owns_far h.1 hg (fun g e => by obtain rfl := Option.some.inj e; exact ne.n1), owns_far h.2.1 hg (fun g e => by obtain rfl := Option.some.inj e; exact ne.n2), h.2.2.1.kept hg (fun j u g hu hb e => ne.nv j u hu (by rw [hb, e])), owns_far h.2.2.2.1 hg (fun g e => by obtain rfl := Option.some.inj e; exact ne.n3), h.2.2.2.2⟩
/-- A world cut off at so many blocks: a base for what is kept of tables. -/
def cutW (w : World) (B : Nat) : World := { w with heap := w.heap.extract 0 B }
theorem cut_size {w : World} {B : Nat} (h : B ≤ w.heap.size) : (cutW w B).heap.size = B := by
  simp [cutW, Nat.min_eq_left h]
theorem cut_below {w : World} {B : Nat} (h : B ≤ w.heap.size) : Below (cutW w B).heap.size (cutW w B) w := by
  rw [cut_size h]
  refine ⟨rfl, rfl, rfl, by rw [cut_size h]; exact h, fun i hi => ?_⟩
  simp [cutW, hi, h]
theorem grownBy_farT {a b c : World} {p : Nat} {r : Option Nat} (h : a.grownBy b (some p)) (k : b.grownBy c r) (hr : ∀ g, r = some g → a.heap.size ≤ g) : a.grownBy c (some p) :=
  ⟨k.os.trans h.os, k.tape.trans h.tape, k.output.trans h.output, Nat.le_trans h.size k.size, fun i hi hne => (k.block i (Nat.lt_of_lt_of_le hi h.size) (fun e => by have := hr i e.symm; omega)).trans (h.block i hi hne)⟩
/-- What is kept while a table is drawn: rb is the result's box. -/
structure DrT (W w0 wr : World) (p rb ob : Nat) (cs : Array Value) (T : Tab) (vs : List Value) (u1 u2 u3 : Value) : Prop where
  cur : Cur W wr p
  grown : w0.grownBy wr (some p)
  box : wr.heap[ob]? = some (.cells cs 28 (0, 0))
  own : TabOwn wr w0.heap.size T vs u1 u2 u3
  oge : w0.heap.size ≤ ob
  res : wr.heap[rb]? = some (.cells #[.slice none 0 0, .string ⟨#[]⟩, .slice none 0 0, .slice none 0 0] 28 (0, 0))
  rge : w0.heap.size ≤ rb
  ne : rb ≠ ob
  hW : W.heap.size ≤ w0.heap.size
/-- .. and the row that is drawn. -/
structure DrR (W w0 wr : World) (p rb ob lo : Nat) (cs : Array Value) (T : Tab) (vs : List Value) (u1 u2 u3 vr : Value) (row : List Int) : Prop where
  st : DrT W w0 wr p rb ob cs T vs u1 u2 u3
  row : wr.ownsRow lo 3 1 vr row.length (intCells row)
  le : w0.heap.size ≤ lo
  hi : lo ≤ wr.heap.size
  l1 : ∀ (j : Nat) x g, vs[j]? = some x → x.ownBlock = some g → g < lo
  l3 : ∀ g, u3.ownBlock = some g → g < lo
theorem DrR.cur {W w0 wr : World} {p rb ob lo : Nat} {cs : Array Value} {T : Tab} {vs : List Value} {u1 u2 u3 vr : Value} {row : List Int} (h : DrR W w0 wr p rb ob lo cs T vs u1 u2 u3 vr row) : Cur W wr p := h.st.cur
theorem DrT.rt {W w0 wr : World} {p rb ob : Nat} {cs : Array Value} {T : Tab} {vs : List Value} {u1 u2 u3 : Value} (h : DrT W w0 wr p rb ob cs T vs u1 u2 u3) : RtO (cutW wr w0.heap.size) wr ob cs T vs u1 u2 u3 :=
  ⟨cut_below h.grown.size, h.box, by rw [cut_size h.grown.size]; exact h.own, by rw [cut_size h.grown.size]; exact h.oge⟩
theorem DrR.rr {W w0 wr : World} {p rb ob lo : Nat} {cs : Array Value} {T : Tab} {vs : List Value} {u1 u2 u3 vr : Value} {row : List Int} (h : DrR W w0 wr p rb ob lo cs T vs u1 u2 u3 vr row) : RrS (cutW wr w0.heap.size) wr ob lo cs T vs u1 u2 u3 vr row :=
  ⟨h.st.rt, h.row, by rw [cut_size h.st.grown.size]; exact h.le, h.hi, h.l1, h.l3⟩
theorem DrT.draw {W w0 wr w' : World} {p rb ob : Nat} {cs : Array Value} {T : Tab} {vs : List Value} {u1 u2 u3 : Value} (h : DrT W w0 wr p rb ob cs T vs u1 u2 u3) (hc : Cur W w' p) (hg : wr.grownBy w' (some p)) : DrT W w0 w' p rb ob cs T vs u1 u2 u3 := by
  obtain ⟨cs', hb⟩ := h.cur.blkT
  exact ⟨hc, grownBy_trans h.grown hg, blk_far h.box hb (by decide) hg, h.own.draw h.cur hg, h.oge, blk_far h.res hb (by decide) hg, h.rge, h.ne, h.hW⟩
theorem DrR.draw {W w0 wr w' : World} {p rb ob lo : Nat} {cs : Array Value} {T : Tab} {vs : List Value} {u1 u2 u3 vr : Value} {row : List Int} (h : DrR W w0 wr p rb ob lo cs T vs u1 u2 u3 vr row) (hc : Cur W w' p) (hg : wr.grownBy w' (some p)) : DrR W w0 w' p rb ob lo cs T vs u1 u2 u3 vr row := by
  obtain ⟨cs', hb⟩ := h.cur.blkT
  have hT : 3 ≠ 69 := by decide
  exact ⟨h.st.draw hc hg, owns_far h.row hg (fun g e => by obtain rfl := Option.some.inj e; exact own_ne_blk h.row hb hT), h.le, Nat.le_trans h.hi hg.size, h.l1, h.l3⟩
theorem DrT.laid {W w0 wr : World} {p rb ob : Nat} {cs : Array Value} {T : Tab} {vs : List Value} {u1 u2 u3 : Value} (h : DrT W w0 wr p rb ob cs T vs u1 u2 u3) (o : Obj) : DrT W w0 (wr.alloc o) p rb ob cs T vs u1 u2 u3 := h.draw (h.cur.alloc o) (grow_al _ _ _)
theorem DrR.laid {W w0 wr : World} {p rb ob lo : Nat} {cs : Array Value} {T : Tab} {vs : List Value} {u1 u2 u3 vr : Value} {row : List Int} (h : DrR W w0 wr p rb ob lo cs T vs u1 u2 u3 vr row) (o : Obj) : DrR W w0 (wr.alloc o) p rb ob lo cs T vs u1 u2 u3 vr row := h.draw (h.cur.alloc o) (grow_al _ _ _)
theorem DrT.start {W w0 wr : World} {p rb ob : Nat} {cs : Array Value} {T : Tab} {vs : List Value} {u1 u2 u3 : Value} (h : DrT W w0 wr p rb ob cs T vs u1 u2 u3) : DrR W w0 (wr.alloc (.cells #[] 3)) p rb ob wr.heap.size cs T vs u1 u2 u3 (.slice (some ⟨wr.heap.size, 0, none⟩) 0 0) [] :=
  ⟨h.laid _, World.ownsRow_made wr #[] 0 (Nat.le_refl _) (by unfold maxLen; omega) (by simp), h.grown.size, (bl_al wr _).size, fun j x g hx hb => (h.own.2.2.1.lt hx hb).2, fun g hb => (h.own.2.2.2.1.lt g hb).2⟩
/-- A number is appended to the row. -/
theorem DrR.app {W w0 wr w' : World} {p rb ob lo : Nat} {cs : Array Value} {T : Tab} {vs : List Value} {u1 u2 u3 vr vr' : Value} {row : List Int} {x : Int} (h : DrR W w0 wr p rb ob lo cs T vs u1 u2 u3 vr row) (hg : wr.grownBy w' vr.ownBlock) (ho' : w'.ownsRow lo 3 1 vr' (row.length + 1) (intCells row ++ [.int .i64 x])) : DrR W w0 w' p rb ob lo cs T vs u1 u2 u3 vr' (row ++ [x]) := by
  obtain ⟨cs', hb⟩ := h.cur.blkT
  have hT : 3 ≠ 69 := by decide
  have hT2 : 3 ≠ 28 := by decide
  have hlo : ∀ k, vr.ownBlock = some k → w0.heap.size ≤ k := fun k hk => Nat.le_trans h.le (h.row.lt k hk).1
  have hr := h.rr.app hg ho'
  have ho := hr.st.own
  rw [cut_size h.st.grown.size] at ho
  refine ⟨⟨h.cur.grownT hg (fun k hk => ⟨Nat.le_trans h.st.hW (hlo k hk), fun e => own_ne_blk h.row hb hT (e ▸ hk)⟩), grownBy_farT h.st.grown hg hlo, hr.st.box, ho, h.st.oge, ?_, h.st.rge, h.st.ne, h.st.hW⟩, hr.row, h.le, hr.hi, h.l1, h.l3⟩
  rw [hg.block rb (blk_lt h.st.res) (fun e => own_ne_blk h.row h.st.res hT2 e.symm)]
  exact h.st.res
/-- The row is appended to the rows. -/
theorem DrR.push {W w0 wr w' : World} {p rb ob lo : Nat} {cs : Array Value} {T : Tab} {vs : List Value} {u1 u2 u3 vr u2' : Value} {row : List Int} (h : DrR W w0 wr p rb ob lo cs T vs u1 u2 u3 vr row) (hg : wr.grownBy w' u2.ownBlock) (ho' : w'.ownsRow w0.heap.size 26 1 u2' (T.rs.length + 1) (vs ++ [vr])) : DrT W w0 w' p rb ob cs ⟨T.ns, T.y, T.rs ++ [row], T.ys⟩ (vs ++ [vr]) u1 u2' u3 := by
  obtain ⟨cs', hb⟩ := h.cur.blkT
  have hT : 26 ≠ 69 := by decide
  have hT2 : 26 ≠ 28 := by decide
  have ho := h.st.own.2.1
  have hs := cut_size h.st.grown.size
  have hr := h.st.rt.pushR (lo := lo) (by rw [hs]; exact World.ownsRow.mono h.row h.le) h.l1 (fun g hg => (h.row.lt g hg).1) h.l3 hg (by rw [hs]; exact ho')
  have hown := hr.own
  rw [hs] at hown
  refine ⟨h.cur.grownT hg (fun k hk => ⟨Nat.le_trans h.st.hW (ho.lt k hk).1, fun e => own_ne_blk ho hb hT (e ▸ hk)⟩), grownBy_farT h.st.grown hg (fun k hk => (ho.lt k hk).1), hr.box, hown, h.st.oge, ?_, h.st.rge, h.st.ne, h.st.hW⟩
  rw [hg.block rb (blk_lt h.st.res) (fun e => own_ne_blk ho h.st.res hT2 e.symm)]
  exact h.st.res
/-- A target's number is appended. -/
theorem DrT.pushY {W w0 wr w' : World} {p rb ob : Nat} {cs : Array Value} {T : Tab} {vs : List Value} {u1 u2 u3 : Value} {g3 n3 c3 : Nat} {x : Int} (h : DrT W w0 wr p rb ob cs T vs u1 u2 u3) (hg : wr.grownBy w' u3.ownBlock)
    (ho' : w'.ownsRow w0.heap.size 3 1 (.slice (some ⟨g3, 0, none⟩) n3 c3) (T.ys.length + 1) (intCells T.ys ++ [.int .i64 x])) (hat : u3.ownBlock = some g3 ∨ wr.heap.size ≤ g3) : DrT W w0 w' p rb ob cs ⟨T.ns, T.y, T.rs, T.ys ++ [x]⟩ vs u1 u2 (.slice (some ⟨g3, 0, none⟩) n3 c3) := by
  obtain ⟨cs', hb⟩ := h.cur.blkT
  have hT : 3 ≠ 69 := by decide
  have hT2 : 3 ≠ 28 := by decide
  have ho := h.own.2.2.2.1
  have hs := cut_size h.grown.size
  have hr := h.rt.pushY hg (by rw [hs]; exact ho') hat
  have hown := hr.own
  rw [hs] at hown
  refine ⟨h.cur.grownT hg (fun k hk => ⟨Nat.le_trans h.hW (ho.lt k hk).1, fun e => own_ne_blk ho hb hT (e ▸ hk)⟩), grownBy_farT h.grown hg (fun k hk => (ho.lt k hk).1), hr.box, hown, h.oge, ?_, h.rge, h.ne, h.hW⟩
  rw [hg.block rb (blk_lt h.res) (fun e => own_ne_blk ho h.res hT2 e.symm)]
  exact h.res
theorem blk_neT {w : World} {a b : Nat} {cs cs' : Array Value} {T T' : TypeId} (h : w.heap[a]? = some (.cells cs T (0, 0))) (hb : w.heap[b]? = some (.cells cs' T' (0, 0))) (hT : T ≠ T') : a ≠ b := by
  intro e
  rw [e, hb] at h
  injection h with h
  injection h with _ h
  exact hT h.symm
/-- The box of the table is written. -/
theorem DrT.set {W w0 wr : World} {p rb ob : Nat} {cs : Array Value} {T : Tab} {vs : List Value} {u1 u2 u3 : Value} (h : DrT W w0 wr p rb ob cs T vs u1 u2 u3) (i : Nat) (x : Value) : DrT W w0 (wr.setCell ⟨ob, i, none⟩ x) p rb ob (cs.setIfInBounds i x) T vs u1 u2 u3 := by
  obtain ⟨cs', hb⟩ := h.cur.blkT
  have hne : ob ≠ p := blk_neT h.box hb (by decide)
  have hg : wr.grownBy (wr.setCell ⟨ob, i, none⟩ x) (some ob) := grownBy_set _ _ _ _
  have hs := cut_size h.grown.size
  have hr := h.rt.set i x
  have hown := hr.own
  rw [hs] at hown
  have hge : ∀ k, some ob = some k → w0.heap.size ≤ k := fun k hk => by
    obtain rfl := Option.some.inj hk
    exact h.oge
  refine ⟨h.cur.grownT hg (fun k hk => ⟨Nat.le_trans h.hW (hge k hk), fun e => hne ((Option.some.inj hk).trans e)⟩), grownBy_farT h.grown hg hge, hr.box, hown, h.oge, ?_, h.rge, h.ne, h.hW⟩
  rw [hg.block rb (blk_lt h.res) (fun e => h.ne (Option.some.inj e))]
  exact h.res
theorem Cur.setD {W w : World} {p q : Nat} (h : Cur W w p) (hq : W.heap.size ≤ q) (hn : q ≠ p) (i : Nat) (x : Value) : Cur W (w.setCell ⟨q, i, none⟩ x) p :=
  h.grownT (grownBy_set _ _ _ _) (fun k hk => by
    obtain rfl := Option.some.inj hk
    exact ⟨hq, hn⟩)
/-- The result's box is written. -/
theorem DrT.exit {W w0 wr : World} {p rb ob : Nat} {cs : Array Value} {T : Tab} {vs : List Value} {u1 u2 u3 : Value} (h : DrT W w0 wr p rb ob cs T vs u1 u2 u3) (x0 x1 x2 x3 : Value) :
    TabOwn ((((wr.setCell ⟨rb, 0, none⟩ x0).setCell ⟨rb, 1, none⟩ x1).setCell ⟨rb, 2, none⟩ x2).setCell ⟨rb, 3, none⟩ x3) w0.heap.size T vs u1 u2 u3 ∧ Cur W ((((wr.setCell ⟨rb, 0, none⟩ x0).setCell ⟨rb, 1, none⟩ x1).setCell ⟨rb, 2, none⟩ x2).setCell ⟨rb, 3, none⟩ x3) p ∧
      w0.grownBy ((((wr.setCell ⟨rb, 0, none⟩ x0).setCell ⟨rb, 1, none⟩ x1).setCell ⟨rb, 2, none⟩ x2).setCell ⟨rb, 3, none⟩ x3) (some p) := by
  have N0 := h.own.ne h.res (by decide) (by decide) (by decide)
  obtain ⟨cs', hb⟩ := h.cur.blkT
  have hn : rb ≠ p := blk_neT h.res hb (by decide)
  have hW := Nat.le_trans h.hW h.rge
  have hge : ∀ k, some rb = some k → w0.heap.size ≤ k := fun k hk => by
    obtain rfl := Option.some.inj hk
    exact h.rge
  exact ⟨(((h.own.setN N0 0 _).setN N0 1 _).setN N0 2 _).setN N0 3 _, (((h.cur.setD hW hn 0 _).setD hW hn 1 _).setD hW hn 2 _).setD hW hn 3 _, grownBy_farT h.grown (grownBy_trans (grownBy_trans (grownBy_trans (grownBy_set _ rb _ _) (grownBy_set _ rb _ _)) (grownBy_set _ rb _ _)) (grownBy_set _ rb _ _)) hge⟩
end Go.Proofs.Yticeagjonfifbaa
