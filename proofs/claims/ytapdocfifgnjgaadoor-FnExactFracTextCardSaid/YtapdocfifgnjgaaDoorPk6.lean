/-
  Two boxes of wide numbers, in a region that draws its order.
  Wide numbers of the program: the order, but for two negated nothings.
  Wide numbers of the program: the order of two negated nothings.
  Wide numbers of the program: the order, whatever the numbers.
-/
import Derived.Test.YtapdocfifgnjgaaDoorImpC
import Derived.Deep.RegionHeld3
import Derived.Deep.RegionWith
namespace Go.Proofs.YtapdocfifgnjgaaDoor
open Go.RowKit

theorem box2 {w w1 : World} {a b : Array Value} {T U : TypeId} (hB : Below ((w.alloc (.cells a T)).alloc (.cells b U)).heap.size ((w.alloc (.cells a T)).alloc (.cells b U)) w1) :
    w1.heap[w.heap.size]? = some (.cells a T (0, 0)) ∧ w1.heap[w.heap.size + 1]? = some (.cells b U (0, 0)) ∧ Below w.heap.size w w1 ∧ w.heap.size + 1 + 1 ≤ w1.heap.size := by
  have hs : ((w.alloc (.cells a T)).alloc (.cells b U)).heap.size = w.heap.size + 1 + 1 := by simp
  have h := hB.size
  rw [hs] at h hB
  refine ⟨?_, ?_, (((Below.refl _ _).alloc (Nat.le_refl _) _).alloc (by simp) _).trans (hB.mono (by omega)), h⟩
  · rw [hB.block _ (by omega), Below.heap_alloc _ _ _ (by simp)]
    exact box_new _ _
  · rw [hB.block _ (by omega)]
    have := box_new (w.alloc (.cells a T)) (.cells b U)
    rwa [show (w.alloc (.cells a T)).heap.size = w.heap.size + 1 by simp] at this
/-- The sign that a box holds, whatever it is. -/
def nb (w : World) (b : Nat) : Bool := match w.cell? ⟨b, 0, none⟩ with | some (.bool t) => t | _ => false
theorem nb_mk {w : World} {b : Nat} {t : Bool} (h : w.cell? ⟨b, 0, none⟩ = some (.bool t)) : w.cell? ⟨b, 0, none⟩ = some (.bool (nb w b)) := by unfold nb; rw [h]
theorem frozen_still {wr w' : World} {b k : Nat} (h : wr.frozen? ⟨b, k, none⟩ = false) (hb : b < wr.heap.size) (hB : Below wr.heap.size wr w') : w'.frozen? ⟨b, k, none⟩ = false := (hB.frozen hb).trans h
/-- Two boxes of wide numbers. -/
abbrev PairS (W : World) (A B : Nat) (pa pb : World → Value) (h0 l0 h1 l1 : Int) (w' : World) : Prop :=
  w'.cell? ⟨A, 0, none⟩ = some (pa w') ∧ w'.cell? ⟨A, 1, none⟩ = some (.int .u64 h0) ∧ w'.cell? ⟨A, 2, none⟩ = some (.int .u64 l0) ∧ w'.cell? ⟨B, 0, none⟩ = some (pb w') ∧ w'.cell? ⟨B, 1, none⟩ = some (.int .u64 h1) ∧ w'.cell? ⟨B, 2, none⟩ = some (.int .u64 l1) ∧
    (∀ k, w'.frozen? ⟨A, k, none⟩ = false) ∧ (∀ k, w'.frozen? ⟨B, k, none⟩ = false) ∧ Below W.heap.size W w'
/-- A cell that a call leaves. -/
def KeepsC (A : Nat) (pa : World → Value) : Prop := ∀ wr w', wr.cell? ⟨A, 0, none⟩ = some (pa wr) → Below wr.heap.size wr w' → w'.cell? ⟨A, 0, none⟩ = some (pa w')
theorem keepsC_at (A : Nat) (v : Value) : KeepsC A (fun _ => v) := fun _ _ h hB => below_cell h hB
theorem keepsC_nb (A : Nat) : KeepsC A (fun w => .bool (nb w A)) := fun _ _ h hB => nb_mk (below_cell h hB)
theorem PairS.still {W : World} {A B : Nat} {pa pb : World → Value} {h0 l0 h1 l1 : Int} {wr w' : World} (ha : KeepsC A pa) (hb : KeepsC B pb) (h : PairS W A B pa pb h0 l0 h1 l1 wr) (hB : Below wr.heap.size wr w') : PairS W A B pa pb h0 l0 h1 l1 w' :=
  ⟨ha _ _ h.1 hB, below_cell h.2.1 hB, below_cell h.2.2.1 hB, hb _ _ h.2.2.2.1 hB, below_cell h.2.2.2.2.1 hB, below_cell h.2.2.2.2.2.1 hB,
    fun k => frozen_still (h.2.2.2.2.2.2.1 k) (World.block_lt_of_cell? wr _ h.1) hB, fun k => frozen_still (h.2.2.2.2.2.2.2.1 k) (World.block_lt_of_cell? wr _ h.2.2.2.1) hB, bt2 h.2.2.2.2.2.2.2.2 hB⟩
theorem withSignS (W : World) (A B : Nat) (pa pb : World → Value) (h0 l0 h1 l1 : Int) (ha : KeepsC A pa) (hb : KeepsC B pb) (g n : Bool) (h l : Int) (s : Bool) (hs : sgV g h l = s) (wr : World) (hS : PairS W A B pa pb h0 l0 h1 l1 wr) :
    Calls Tryd.prog 56 #[.bool g, .agg #[.bool n, .int .u64 h, .int .u64 l]] wr fun e w' => e = .returned (.agg #[.bool s, .int .u64 h, .int .u64 l]) ∧ PairS W A B pa pb h0 l0 h1 l1 w' :=
  (implWithSign g n h l wr).mono fun e w' k => ⟨by rw [k.1, hs], hS.still ha hb k.2⟩
theorem st3_at (wr : World) (A : Nat) (v0 v1 v2 u0 u1 u2 : Value) (h0 : wr.cell? ⟨A, 0, none⟩ = some u0) (h1 : wr.cell? ⟨A, 1, none⟩ = some u1) (h2 : wr.cell? ⟨A, 2, none⟩ = some u2) :
    (((wr.setCell ⟨A, 0, none⟩ v0).setCell ⟨A, 1, none⟩ v1).setCell ⟨A, 2, none⟩ v2).cell? ⟨A, 0, none⟩ = some v0 ∧ (((wr.setCell ⟨A, 0, none⟩ v0).setCell ⟨A, 1, none⟩ v1).setCell ⟨A, 2, none⟩ v2).cell? ⟨A, 1, none⟩ = some v1 ∧ (((wr.setCell ⟨A, 0, none⟩ v0).setCell ⟨A, 1, none⟩ v1).setCell ⟨A, 2, none⟩ v2).cell? ⟨A, 2, none⟩ = some v2 := by
  have n01 : (⟨A, 0, none⟩ : Addr) ≠ ⟨A, 1, none⟩ := fun e => by cases e
  have n02 : (⟨A, 0, none⟩ : Addr) ≠ ⟨A, 2, none⟩ := fun e => by cases e
  have n12 : (⟨A, 1, none⟩ : Addr) ≠ ⟨A, 2, none⟩ := fun e => by cases e
  refine ⟨?_, ?_, ?_⟩
  · rw [World.cell?_setCell_other _ _ _ _ n02.symm, World.cell?_setCell_other _ _ _ _ n01.symm]
    exact World.cell?_setCell_same _ _ _ h0
  · rw [World.cell?_setCell_other _ _ _ _ n12.symm]
    exact World.cell?_setCell_same _ _ _ ((World.cell?_setCell_other _ _ _ _ n01).trans h1)
  · exact World.cell?_setCell_same _ _ _ ((World.cell?_setCell_other _ _ _ _ n12).trans ((World.cell?_setCell_other _ _ _ _ n02).trans h2))
theorem st3_far (wr : World) (A B k : Nat) (v0 v1 v2 : Value) (h : A ≠ B) :
    (((wr.setCell ⟨A, 0, none⟩ v0).setCell ⟨A, 1, none⟩ v1).setCell ⟨A, 2, none⟩ v2).cell? ⟨B, k, none⟩ = wr.cell? ⟨B, k, none⟩ := by
  rw [World.cell?_setCell_far _ _ _ _ h, World.cell?_setCell_far _ _ _ _ h, World.cell?_setCell_far _ _ _ _ h]
theorem st3_frozen (wr : World) (A : Nat) (a : Addr) (v0 v1 v2 : Value) : (((wr.setCell ⟨A, 0, none⟩ v0).setCell ⟨A, 1, none⟩ v1).setCell ⟨A, 2, none⟩ v2).frozen? a = wr.frozen? a := by
  rw [World.frozen?_setCell, World.frozen?_setCell, World.frozen?_setCell]
theorem st3_below {W wr : World} {A : Nat} (h : Below W.heap.size W wr) (hA : W.heap.size ≤ A) (v0 v1 v2 : Value) : Below W.heap.size W (((wr.setCell ⟨A, 0, none⟩ v0).setCell ⟨A, 1, none⟩ v1).setCell ⟨A, 2, none⟩ v2) :=
  ((h.setCell hA v0).setCell hA v1).setCell hA v2
/-- A sign that is stored, and one that is left alone. -/
def SetsC (A : Nat) (pa : World → Value) (s : Bool) : Prop := ∀ w', w'.cell? ⟨A, 0, none⟩ = some (.bool s) → w'.cell? ⟨A, 0, none⟩ = some (pa w')
def NearC (A : Nat) (pa : World → Value) : Prop := ∀ wr w', wr.cell? ⟨A, 0, none⟩ = some (pa wr) → w'.cell? ⟨A, 0, none⟩ = wr.cell? ⟨A, 0, none⟩ → w'.cell? ⟨A, 0, none⟩ = some (pa w')
theorem setsC_at (A : Nat) (s : Bool) : SetsC A (fun _ => .bool s) s := fun _ h => h
theorem setsC_nb (A : Nat) (s : Bool) : SetsC A (fun w => .bool (nb w A)) s := fun _ h => nb_mk h
theorem nearC_at (A : Nat) (v : Value) : NearC A (fun _ => v) := fun _ _ h k => k.trans h
theorem nearC_nb (A : Nat) : NearC A (fun w => .bool (nb w A)) := fun _ _ h k => nb_mk (k.trans h)
theorem PairS.setA {W : World} {A B : Nat} {pa pb : World → Value} {h0 l0 h1 l1 : Int} {wr : World} (h : PairS W A B pa pb h0 l0 h1 l1 wr) (hA : W.heap.size ≤ A) (hne : A ≠ B) (s : Bool) (hp : SetsC A pa s) (hq : NearC B pb) :
    PairS W A B pa pb h0 l0 h1 l1 (((wr.setCell ⟨A, 0, none⟩ (.bool s)).setCell ⟨A, 1, none⟩ (.int .u64 h0)).setCell ⟨A, 2, none⟩ (.int .u64 l0)) :=
  have k := st3_at wr A (.bool s) (.int .u64 h0) (.int .u64 l0) _ _ _ h.1 h.2.1 h.2.2.1
  ⟨hp _ k.1, k.2.1, k.2.2, hq _ _ h.2.2.2.1 (st3_far _ _ _ _ _ _ _ hne), (st3_far _ _ _ _ _ _ _ hne).trans h.2.2.2.2.1, (st3_far _ _ _ _ _ _ _ hne).trans h.2.2.2.2.2.1,
    fun j => (st3_frozen _ _ _ _ _ _).trans (h.2.2.2.2.2.2.1 j), fun j => (st3_frozen _ _ _ _ _ _).trans (h.2.2.2.2.2.2.2.1 j), st3_below h.2.2.2.2.2.2.2.2 hA _ _ _⟩
theorem PairS.setB {W : World} {A B : Nat} {pa pb : World → Value} {h0 l0 h1 l1 : Int} {wr : World} (h : PairS W A B pa pb h0 l0 h1 l1 wr) (hA : W.heap.size ≤ B) (hne : B ≠ A) (s : Bool) (hp : SetsC B pb s) (hq : NearC A pa) :
    PairS W A B pa pb h0 l0 h1 l1 (((wr.setCell ⟨B, 0, none⟩ (.bool s)).setCell ⟨B, 1, none⟩ (.int .u64 h1)).setCell ⟨B, 2, none⟩ (.int .u64 l1)) :=
  have k := st3_at wr B (.bool s) (.int .u64 h1) (.int .u64 l1) _ _ _ h.2.2.2.1 h.2.2.2.2.1 h.2.2.2.2.2.1
  ⟨hq _ _ h.1 (st3_far _ _ _ _ _ _ _ hne), (st3_far _ _ _ _ _ _ _ hne).trans h.2.1, (st3_far _ _ _ _ _ _ _ hne).trans h.2.2.1, hp _ k.1, k.2.1, k.2.2,
    fun j => (st3_frozen _ _ _ _ _ _).trans (h.2.2.2.2.2.2.1 j), fun j => (st3_frozen _ _ _ _ _ _).trans (h.2.2.2.2.2.2.2.1 j), st3_below h.2.2.2.2.2.2.2.2 hA _ _ _⟩
theorem PairS.fin {W : World} {A B : Nat} {pa pb : World → Value} {h0 l0 h1 l1 : Int} {wr : World} (h : PairS W A B pa pb h0 l0 h1 l1 wr) (hA : W.heap.size ≤ A) (hB : W.heap.size ≤ B) (hne : A ≠ B) (s t : Bool) (hp : SetsC A pa s) (hq : NearC B pb) :
    PairS W A B (fun _ => .bool s) (fun _ => .bool t) h0 l0 h1 l1 ((((((wr.setCell ⟨A, 0, none⟩ (.bool s)).setCell ⟨A, 1, none⟩ (.int .u64 h0)).setCell ⟨A, 2, none⟩ (.int .u64 l0)).setCell ⟨B, 0, none⟩ (.bool t)).setCell ⟨B, 1, none⟩ (.int .u64 h1)).setCell ⟨B, 2, none⟩ (.int .u64 l1)) :=
  have k := h.setA hA hne s hp hq
  have k0 := st3_at wr A (.bool s) (.int .u64 h0) (.int .u64 l0) _ _ _ h.1 h.2.1 h.2.2.1
  have m := st3_at _ B (.bool t) (.int .u64 h1) (.int .u64 l1) _ _ _ k.2.2.2.1 k.2.2.2.2.1 k.2.2.2.2.2.1
  ⟨(st3_far _ _ _ _ _ _ _ hne.symm).trans k0.1, (st3_far _ _ _ _ _ _ _ hne.symm).trans k0.2.1, (st3_far _ _ _ _ _ _ _ hne.symm).trans k0.2.2, m.1, m.2.1, m.2.2,
    fun j => (st3_frozen _ _ _ _ _ _).trans (k.2.2.2.2.2.2.1 j), fun j => (st3_frozen _ _ _ _ _ _).trans (k.2.2.2.2.2.2.2.1 j), st3_below k.2.2.2.2.2.2.2.2 hB _ _ _⟩
/-- A call that leaves what lies below leaves the two boxes. -/
theorem PairS.call {f : FuncId} {args : Array Value} {W : World} {A B : Nat} {pa pb : World → Value} {h0 l0 h1 l1 : Int} {wr : World} {E : Ending} (ha : KeepsC A pa) (hb : KeepsC B pb)
    (h : Calls Tryd.prog f args wr fun e w' => e = E ∧ Below wr.heap.size wr w') (hS : PairS W A B pa pb h0 l0 h1 l1 wr) : Calls Tryd.prog f args wr fun e w' => e = E ∧ PairS W A B pa pb h0 l0 h1 l1 w' :=
  h.mono fun _ _ k => ⟨k.1, hS.still ha hb k.2⟩
end Go.Proofs.YtapdocfifgnjgaaDoor
namespace Go.Proofs.YtapdocfifgnjgaaDoor
open Go.RowKit

end Go.Proofs.YtapdocfifgnjgaaDoor
namespace Go.Proofs.YtapdocfifgnjgaaDoor
open Go.RowKit

end Go.Proofs.YtapdocfifgnjgaaDoor
namespace Go.Proofs.YtapdocfifgnjgaaDoor
open Go.RowKit

theorem svt (x : Int) : sv true x = -x := by simp [sv]
theorem svf (x : Int) : sv false x = x := by simp [sv]
end Go.Proofs.YtapdocfifgnjgaaDoor
