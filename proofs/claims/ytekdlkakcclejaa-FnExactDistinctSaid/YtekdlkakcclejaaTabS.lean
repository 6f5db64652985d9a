/-
  The laws' own helpers on tables: equal, their size, their copy, their marks.
-/
import Derived.Test.YtekdlkakcclejaaCsvI
import Derived.Test.YtekdlkakcclejaaBas
import Derived.Test.YtekdlkakcclejaaRowII
import Derived.Test.YtekdlkakcclejaaArgsB
import Derived.Laws.ResultCell
import Derived.Deep.Onto
import Derived.OneCell
namespace Go.Proofs.Ytekdlkakcclejaa
open Go.RowKit

/-- A table. -/
structure Tab where
  ns : List (List UInt8)
  y : List UInt8
  rs : List (List Int)
  ys : List Int
/-- The table's parts read so. -/
def TabRow (w : World) (T : Tab) (u1 u2 u3 : Value) : Prop := StrRow w u1 T.ns ∧ IIRow w u2 T.rs ∧ IntRow w u3 T.ys
theorem TabRow.below {w w' : World} {T : Tab} {u1 u2 u3 : Value} (h : TabRow w T u1 u2 u3) (hB : Below w.heap.size w w') : TabRow w' T u1 u2 u3 := ⟨h.1.below hB, h.2.1.below hB, h.2.2.below hB⟩
theorem sRow_form {w : World} {v : Value} {L : List (List UInt8)} (h : StrRow w v L) : ∃ a c, v = .slice a L.length c ∧ L.length ≤ 9223372036854775807 := by
  rcases h with ⟨rfl, a, c, rfl⟩ | ⟨b, off, c, rfl, hl, _, hc⟩
  · exact ⟨a, c, rfl, by simp⟩
  · exact ⟨_, c, rfl, hl⟩
theorem iiRow_form {w : World} {v : Value} {L : List (List Int)} (h : IIRow w v L) : ∃ a c, v = .slice a L.length c ∧ L.length ≤ 9223372036854775807 := by
  rcases h with ⟨rfl, a, c, rfl⟩ | ⟨b, off, c, rfl, hl, _, hc⟩
  · exact ⟨a, c, rfl, by simp⟩
  · exact ⟨_, c, rfl, hl⟩
theorem res_one {fn : Func} {p : Tmp} {ty : TypeId} (h : fn.results = #[.cell p ty]) (tmps : Array Value) (P : Program) (w : World) :
    (results fn tmps).run P w = ((asAddr (tmps.getD p undef)).run P w).andThen fun a w1 => (loadVar ty a).run P w1 := by
  simp only [results, h]
  simp [Sem.run_bind, Result.andThen]
theorem sz_alloc (w : World) (o : Obj) : (w.alloc o).heap.size = w.heap.size + 1 := by simp
theorem blk_al {w : World} {b : Nat} {o : Obj} (h : w.heap[b]? = some o) (x : Obj) : (w.alloc x).heap[b]? = some o := (Below.heap_alloc w x b (blk_lt h)).trans h
theorem bl_al (w : World) (o : Obj) : Below w.heap.size w (w.alloc o) := (Below.refl _ _).alloc (Nat.le_refl _) _
theorem grow_al (w : World) (o : Obj) (r : Option Nat) : w.grownBy (w.alloc o) r := ⟨rfl, rfl, rfl, by simp, fun i hi _ => Below.heap_alloc w o i hi⟩
theorem owns_bl {w w' : World} {base n : Nat} {T : TypeId} {v : Value} {xs : List Value} (h : w.ownsRow base T 1 v n xs) (hB : Below w.heap.size w w') : w'.ownsRow base T 1 v n xs :=
  h.kept (row := none) ⟨hB.os, hB.tape, hB.output, hB.size, fun k hk _ => hB.block k hk⟩ (by cases hv : v.ownBlock <;> simp)

/-- What the size of a table counts. -/
def szTab (T : Tab) : Nat := (T.ns.length + lensum T.ns) + T.y.length + (T.rs.length + szLI T.rs) + T.ys.length

theorem blk_gr {w w' : World} {b : Nat} {o : Obj} {r : Option Nat} (h : w.heap[b]? = some o) (hg : w.grownBy w' r) (hne : some b ≠ r) : w'.heap[b]? = some o := (hg.block b (blk_lt h) hne).trans h
theorem owns_far {w w' : World} {base n : Nat} {T : TypeId} {v : Value} {xs : List Value} {r : Option Nat} (h : w.ownsRow base T 1 v n xs) (hg : w.grownBy w' r) (hne : ∀ g, r = some g → v.ownBlock ≠ some g) : w'.ownsRow base T 1 v n xs := by
  refine h.kept hg ?_
  cases e : v.ownBlock with
  | none => exact Or.inl rfl
  | some g => exact Or.inr (fun k => hne g k.symm e)
/-- The table's parts are the call's own, and its rows lie apart from its last part. -/
def TabOwn (w : World) (base : Nat) (T : Tab) (vs : List Value) (u1 u2 u3 : Value) : Prop :=
  w.ownsRow base 9 1 u1 T.ns.length (strCells T.ns) ∧ w.ownsRow base 24 1 u2 T.rs.length vs ∧ RowsOwn w base 3 vs (T.rs.map intCells) ∧ w.ownsRow base 3 1 u3 T.ys.length (intCells T.ys) ∧ (∀ (j : Nat) u g, vs[j]? = some u → u.ownBlock = some g → u3.ownBlock ≠ some g)
theorem TabOwn.below {w w' : World} {base : Nat} {T : Tab} {vs : List Value} {u1 u2 u3 : Value} (h : TabOwn w base T vs u1 u2 u3) (hB : Below w.heap.size w w') : TabOwn w' base T vs u1 u2 u3 :=
  ⟨owns_bl h.1 hB, owns_bl h.2.1 hB, h.2.2.1.below hB, owns_bl h.2.2.2.1 hB, h.2.2.2.2⟩
theorem TabOwn.row {w : World} {base : Nat} {T : Tab} {vs : List Value} {u1 u2 u3 : Value} (h : TabOwn w base T vs u1 u2 u3) (h1 : T.ns.length ≤ 9223372036854775807) (h2 : T.rs.length ≤ 9223372036854775807) (h3 : ∀ r ∈ T.rs, r.length ≤ 9223372036854775807) (h4 : T.ys.length ≤ 9223372036854775807) : TabRow w T u1 u2 u3 :=
  ⟨strRow_of_owns h.1 h1, IIOwn.row ⟨vs, h.2.1, h.2.2.1⟩ h2 h3, intRow_of_owns h.2.2.2.1 h4⟩
theorem own_ne_blk {w : World} {base n cb : Nat} {T T' : TypeId} {v : Value} {xs : List Value} {cs : Array Value} (h : w.ownsRow base T 1 v n xs) (hb : w.heap[cb]? = some (.cells cs T' (0, 0))) (hT : T ≠ T') : v.ownBlock ≠ some cb := by
  intro hg
  rcases h.2 with ⟨rfl, _⟩ | ⟨g1, c1, cur1, rfl, _, hc1, _⟩
  · cases hg
  · simp only [Value.ownBlock, Option.some.injEq] at hg
    subst hg
    rw [hb] at hc1
    injection hc1 with hc1
    injection hc1 with _ hc1
    exact hT hc1.symm
theorem RowsOwn.setBox {w : World} {base cb : Nat} {T T' : TypeId} {vs : List Value} {C : List (List Value)} {cs : Array Value} (h : RowsOwn w base T vs C) (hb : w.heap[cb]? = some (.cells cs T' (0, 0))) (hT : T ≠ T') (i : Nat) (x : Value) : RowsOwn (w.setCell ⟨cb, i, none⟩ x) base T vs C :=
  ⟨h.1, fun j u c hu hc => ownsRow_setCell_other (h.2.1 j u c hu hc) (own_ne_blk (h.2.1 j u c hu hc) hb hT) _, h.2.2⟩
theorem RowsOwn.mono {w : World} {base base' : Nat} {T : TypeId} {vs : List Value} {C : List (List Value)} (h : RowsOwn w base T vs C) (hb : base' ≤ base) : RowsOwn w base' T vs C :=
  ⟨h.1, fun j u c hu hc => World.ownsRow.mono (h.2.1 j u c hu hc) hb, h.2.2⟩
/-- The table whose parts are marks from k on. -/
def marksT (T : Tab) (k : Nat) : Tab := ⟨marks k T.ns.length, T.y, marksLI (k + T.ns.length) (T.rs.map List.length), marksI (k + T.ns.length + (T.rs.map List.length).sum) T.ys.length⟩

end Go.Proofs.Ytekdlkakcclejaa
