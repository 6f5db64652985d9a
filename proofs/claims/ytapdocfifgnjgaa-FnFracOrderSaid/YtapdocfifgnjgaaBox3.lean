
/-
  Three and four boxes of wide numbers.
-/
import Derived.Test.YtapdocfifgnjgaaImpF
namespace Go.Proofs.Ytapdocfifgnjgaa
open Go.RowKit

/-- Two boxes of wide numbers and a third. -/
abbrev Pair3S (W : World) (A B : Nat) (p q : Value) (h0 l0 h1 l1 : Int) (X : Nat) (x y z : Value) (w' : World) : Prop :=
  w'.cell? ⟨X, 0, none⟩ = some x ∧ w'.cell? ⟨X, 1, none⟩ = some y ∧ w'.cell? ⟨X, 2, none⟩ = some z ∧ PairS W A B (fun _ => p) (fun _ => q) h0 l0 h1 l1 w'
theorem Pair3S.call {f : FuncId} {args : Array Value} {W : World} {A B X : Nat} {p q x y z : Value} {h0 l0 h1 l1 : Int} {wr : World} {E : Ending} (ha : KeepsC A (fun _ => p)) (hb : KeepsC B (fun _ => q))
    (h : Calls Try.prog f args wr fun e w' => e = E ∧ Below wr.heap.size wr w') (hS : Pair3S W A B p q h0 l0 h1 l1 X x y z wr) : Calls Try.prog f args wr fun e w' => e = E ∧ Pair3S W A B p q h0 l0 h1 l1 X x y z w' :=
  h.mono fun _ _ k => ⟨k.1, below_cell hS.1 k.2, below_cell hS.2.1 k.2, below_cell hS.2.2.1 k.2, hS.2.2.2.still ha hb k.2⟩
theorem Pair3S.drew {W : World} {A B X : Nat} {p q x y z : Value} {h0 l0 h1 l1 : Int} {wr : World} (h : Pair3S W A B p q h0 l0 h1 l1 X x y z wr) : Pair3S W A B p q h0 l0 h1 l1 X x y z wr.drew := ⟨h.1, h.2.1, h.2.2.1, h.2.2.2.drew⟩
theorem Pair3S.made {W : World} {A B : Nat} {p q x y z : Value} {h0 l0 h1 l1 : Int} {T : TypeId} {wr : World} (h : PairS W A B (fun _ => p) (fun _ => q) h0 l0 h1 l1 wr) :
    Pair3S W A B p q h0 l0 h1 l1 wr.heap.size x y z (wr.alloc (.cells #[x, y, z] T)) := by
  have hb : (wr.alloc (.cells #[x, y, z] T)).heap[wr.heap.size]? = some (.cells #[x, y, z] T (0, 0)) := box_new wr _
  exact ⟨cell_blk hb 0, cell_blk hb 1, cell_blk hb 2, h.still (keepsC_at A p) (keepsC_at B q) ((Below.refl _ _).alloc (Nat.le_refl _) _)⟩
theorem PairS.alloc {W : World} {A B : Nat} {p q : Value} {h0 l0 h1 l1 : Int} {wr : World} (h : PairS W A B (fun _ => p) (fun _ => q) h0 l0 h1 l1 wr) (o : Obj) : PairS W A B (fun _ => p) (fun _ => q) h0 l0 h1 l1 (wr.alloc o) :=
  h.still (keepsC_at A p) (keepsC_at B q) ((Below.refl _ _).alloc (Nat.le_refl _) _)
theorem Pair3S.laid {W : World} {A B : Nat} {p q : Value} {h0 l0 h1 l1 : Int} {wr : World} (h : PairS W A B (fun _ => p) (fun _ => q) h0 l0 h1 l1 wr) (u0 u1 u2 x y z : Value) (T : TypeId) :
    Pair3S W A B p q h0 l0 h1 l1 wr.heap.size x y z ((((wr.alloc (.cells #[u0, u1, u2] T)).setCell ⟨wr.heap.size, 0, none⟩ x).setCell ⟨wr.heap.size, 1, none⟩ y).setCell ⟨wr.heap.size, 2, none⟩ z) :=
  have m := Pair3S.made (x := u0) (y := u1) (z := u2) (T := T) h
  have k := st3_at _ wr.heap.size x y z _ _ _ m.1 m.2.1 m.2.2.1
  have nA : wr.heap.size ≠ A := Nat.ne_of_gt (World.block_lt_of_cell? wr _ h.1)
  have nB : wr.heap.size ≠ B := Nat.ne_of_gt (World.block_lt_of_cell? wr _ h.2.2.2.1)
  have g := m.2.2.2
  ⟨k.1, k.2.1, k.2.2, (st3_far _ _ _ _ _ _ _ nA).trans g.1, (st3_far _ _ _ _ _ _ _ nA).trans g.2.1, (st3_far _ _ _ _ _ _ _ nA).trans g.2.2.1, (st3_far _ _ _ _ _ _ _ nB).trans g.2.2.2.1, (st3_far _ _ _ _ _ _ _ nB).trans g.2.2.2.2.1, (st3_far _ _ _ _ _ _ _ nB).trans g.2.2.2.2.2.1,
    fun j => (st3_frozen _ _ _ _ _ _).trans (g.2.2.2.2.2.2.1 j), fun j => (st3_frozen _ _ _ _ _ _).trans (g.2.2.2.2.2.2.2.1 j), st3_below g.2.2.2.2.2.2.2.2 h.2.2.2.2.2.2.2.2.size _ _ _⟩
theorem PairS.far {W : World} {A B : Nat} {p q : Value} {h0 l0 h1 l1 : Int} {wr : World} (h : PairS W A B (fun _ => p) (fun _ => q) h0 l0 h1 l1 wr) (X : Nat) (nA : X ≠ A) (nB : X ≠ B) (hX : W.heap.size ≤ X) (x y z : Value) :
    PairS W A B (fun _ => p) (fun _ => q) h0 l0 h1 l1 (((wr.setCell ⟨X, 0, none⟩ x).setCell ⟨X, 1, none⟩ y).setCell ⟨X, 2, none⟩ z) :=
  ⟨(st3_far _ _ _ _ _ _ _ nA).trans h.1, (st3_far _ _ _ _ _ _ _ nA).trans h.2.1, (st3_far _ _ _ _ _ _ _ nA).trans h.2.2.1, (st3_far _ _ _ _ _ _ _ nB).trans h.2.2.2.1, (st3_far _ _ _ _ _ _ _ nB).trans h.2.2.2.2.1, (st3_far _ _ _ _ _ _ _ nB).trans h.2.2.2.2.2.1,
    fun j => (st3_frozen _ _ _ _ _ _).trans (h.2.2.2.2.2.2.1 j), fun j => (st3_frozen _ _ _ _ _ _).trans (h.2.2.2.2.2.2.2.1 j), st3_below h.2.2.2.2.2.2.2.2 hX _ _ _⟩
theorem PairS.lt {W : World} {A B : Nat} {pa pb : World → Value} {h0 l0 h1 l1 : Int} {wr : World} (h : PairS W A B pa pb h0 l0 h1 l1 wr) : B < wr.heap.size := World.block_lt_of_cell? wr _ h.2.2.2.1
theorem Pair3S.still {W : World} {A B X : Nat} {p q x y z : Value} {h0 l0 h1 l1 : Int} {wr w' : World} (ha : KeepsC A (fun _ => p)) (hb : KeepsC B (fun _ => q)) (h : Pair3S W A B p q h0 l0 h1 l1 X x y z wr) (hB : Below wr.heap.size wr w') : Pair3S W A B p q h0 l0 h1 l1 X x y z w' :=
  ⟨below_cell h.1 hB, below_cell h.2.1 hB, below_cell h.2.2.1 hB, h.2.2.2.still ha hb hB⟩
theorem Pair3S.alloc {W : World} {A B X : Nat} {p q x y z : Value} {h0 l0 h1 l1 : Int} {wr : World} (h : Pair3S W A B p q h0 l0 h1 l1 X x y z wr) (o : Obj) : Pair3S W A B p q h0 l0 h1 l1 X x y z (wr.alloc o) :=
  h.still (keepsC_at A p) (keepsC_at B q) ((Below.refl _ _).alloc (Nat.le_refl _) _)
theorem Pair3S.beyond {W : World} {A B X : Nat} {p q x y z : Value} {h0 l0 h1 l1 : Int} {wr : World} (h : Pair3S W A B p q h0 l0 h1 l1 X x y z wr) (Y : Nat) (nX : Y ≠ X) (nA : Y ≠ A) (nB : Y ≠ B) (hY : W.heap.size ≤ Y) (x' y' z' : Value) :
    Pair3S W A B p q h0 l0 h1 l1 X x y z (((wr.setCell ⟨Y, 0, none⟩ x').setCell ⟨Y, 1, none⟩ y').setCell ⟨Y, 2, none⟩ z') :=
  ⟨(st3_far _ _ _ _ _ _ _ nX).trans h.1, (st3_far _ _ _ _ _ _ _ nX).trans h.2.1, (st3_far _ _ _ _ _ _ _ nX).trans h.2.2.1, h.2.2.2.far Y nA nB hY x' y' z'⟩
theorem Pair3S.ltX {W : World} {A B X : Nat} {p q x y z : Value} {h0 l0 h1 l1 : Int} {wr : World} (h : Pair3S W A B p q h0 l0 h1 l1 X x y z wr) : X < wr.heap.size := World.block_lt_of_cell? wr _ h.1
/-- A fourth box. -/
def Pair4S (W : World) (A B : Nat) (p q : Value) (h0 l0 h1 l1 : Int) (X Y : Nat) (x y z : Value) (w' : World) : Prop :=
  (w'.cell? ⟨Y, 0, none⟩ = some x ∧ w'.cell? ⟨Y, 1, none⟩ = some y ∧ w'.cell? ⟨Y, 2, none⟩ = some z) ∧ Pair3S W A B p q h0 l0 h1 l1 X x y z w'
theorem Pair4S.made {W : World} {A B X : Nat} {p q x y z : Value} {h0 l0 h1 l1 : Int} {wr : World} (h : Pair3S W A B p q h0 l0 h1 l1 X x y z wr) (T : TypeId) : Pair4S W A B p q h0 l0 h1 l1 X wr.heap.size x y z (wr.alloc (.cells #[x, y, z] T)) := by
  have hb : (wr.alloc (.cells #[x, y, z] T)).heap[wr.heap.size]? = some (.cells #[x, y, z] T (0, 0)) := box_new wr _
  exact ⟨⟨cell_blk hb 0, cell_blk hb 1, cell_blk hb 2⟩, h.alloc _⟩
theorem Pair4S.store {W : World} {A B X : Nat} {p q x y z : Value} {h0 l0 h1 l1 : Int} {wr : World} {Y : Nat} {u0 u1 u2 : Value} {T : TypeId} (hk : wr.heap[Y]? = some (.cells #[u0, u1, u2] T (0, 0))) (h : Pair3S W A B p q h0 l0 h1 l1 X x y z wr) (nX : Y ≠ X) (nA : Y ≠ A) (nB : Y ≠ B) (hY : W.heap.size ≤ Y) :
    Pair4S W A B p q h0 l0 h1 l1 X Y x y z (((wr.setCell ⟨Y, 0, none⟩ x).setCell ⟨Y, 1, none⟩ y).setCell ⟨Y, 2, none⟩ z) :=
  ⟨st3_at wr Y x y z _ _ _ (cell_blk hk 0) (cell_blk hk 1) (cell_blk hk 2), h.beyond Y nX nA nB hY x y z⟩
theorem Pair3S.store {W : World} {A B : Nat} {p q : Value} {h0 l0 h1 l1 : Int} {wr : World} {X : Nat} {u0 u1 u2 : Value} {T : TypeId} (hk : wr.heap[X]? = some (.cells #[u0, u1, u2] T (0, 0))) (h : PairS W A B (fun _ => p) (fun _ => q) h0 l0 h1 l1 wr) (nA : X ≠ A) (nB : X ≠ B) (hX : W.heap.size ≤ X) (x y z : Value) :
    Pair3S W A B p q h0 l0 h1 l1 X x y z (((wr.setCell ⟨X, 0, none⟩ x).setCell ⟨X, 1, none⟩ y).setCell ⟨X, 2, none⟩ z) :=
  have k := st3_at wr X x y z _ _ _ (cell_blk hk 0) (cell_blk hk 1) (cell_blk hk 2)
  ⟨k.1, k.2.1, k.2.2, h.far X nA nB hX x y z⟩
end Go.Proofs.Ytapdocfifgnjgaa
