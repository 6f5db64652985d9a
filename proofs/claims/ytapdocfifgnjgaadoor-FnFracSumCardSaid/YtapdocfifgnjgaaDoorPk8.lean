/-
  Three and four boxes of wide numbers.
  The text of a fraction: the reference's way.
  A wide number read from its text: the reference's way.
  Draws of two wide numbers, of a text, of a wide number and a digit.
-/
import Derived.Test.YtapdocfifgnjgaaDoorImpF
import Derived.Test.YtapdocfifgnjgaaDoorFracS
import Derived.Test.YtapdocfifgnjgaaDoorTextS
import Derived.Test.YtapdocfifgnjgaaDoorPk3
import Derived.Test.YtapdocfifgnjgaaDoorPk7
import Derived.Test.YtapdocfifgnjgaaDoorPk5
import Derived.Test.YtapdocfifgnjgaaDoorWideG
namespace Go.Proofs.YtapdocfifgnjgaaDoor
open Go.RowKit

/-- Two boxes of wide numbers and a third. -/
abbrev Pair3S (W : World) (A B : Nat) (p q : Value) (h0 l0 h1 l1 : Int) (X : Nat) (x y z : Value) (w' : World) : Prop :=
  w'.cell? ⟨X, 0, none⟩ = some x ∧ w'.cell? ⟨X, 1, none⟩ = some y ∧ w'.cell? ⟨X, 2, none⟩ = some z ∧ PairS W A B (fun _ => p) (fun _ => q) h0 l0 h1 l1 w'
theorem Pair3S.call {f : FuncId} {args : Array Value} {W : World} {A B X : Nat} {p q x y z : Value} {h0 l0 h1 l1 : Int} {wr : World} {E : Ending} (ha : KeepsC A (fun _ => p)) (hb : KeepsC B (fun _ => q))
    (h : Calls Tryd.prog f args wr fun e w' => e = E ∧ Below wr.heap.size wr w') (hS : Pair3S W A B p q h0 l0 h1 l1 X x y z wr) : Calls Tryd.prog f args wr fun e w' => e = E ∧ Pair3S W A B p q h0 l0 h1 l1 X x y z w' :=
  h.mono fun _ _ k => ⟨k.1, below_cell hS.1 k.2, below_cell hS.2.1 k.2, below_cell hS.2.2.1 k.2, hS.2.2.2.still ha hb k.2⟩
theorem Pair3S.drew {W : World} {A B X : Nat} {p q x y z : Value} {h0 l0 h1 l1 : Int} {wr : World} (h : Pair3S W A B p q h0 l0 h1 l1 X x y z wr) : Pair3S W A B p q h0 l0 h1 l1 X x y z wr.drew := ⟨h.1, h.2.1, h.2.2.1, h.2.2.2.drew⟩
theorem Pair3S.made {W : World} {A B : Nat} {p q x y z : Value} {h0 l0 h1 l1 : Int} {T : TypeId} {wr : World} (h : PairS W A B (fun _ => p) (fun _ => q) h0 l0 h1 l1 wr) :
    Pair3S W A B p q h0 l0 h1 l1 wr.heap.size x y z (wr.alloc (.cells #[x, y, z] T)) := by
  have hb : (wr.alloc (.cells #[x, y, z] T)).heap[wr.heap.size]? = some (.cells #[x, y, z] T (0, 0)) := box_new wr _
  exact ⟨cell_blk hb 0, cell_blk hb 1, cell_blk hb 2, h.still (keepsC_at A p) (keepsC_at B q) ((Below.refl _ _).alloc (Nat.le_refl _) _)⟩
theorem PairS.alloc {W : World} {A B : Nat} {p q : Value} {h0 l0 h1 l1 : Int} {wr : World} (h : PairS W A B (fun _ => p) (fun _ => q) h0 l0 h1 l1 wr) (o : Obj) : PairS W A B (fun _ => p) (fun _ => q) h0 l0 h1 l1 (wr.alloc o) :=
  h.still (keepsC_at A p) (keepsC_at B q) ((Below.refl _ _).alloc (Nat.le_refl _) _)
theorem Pair3S.laid {W : World} {A B : Nat} {p q : Value} {h0 l0 h1 l1 : Int} {wr : World} (h : PairS W A B (fun _ => p) (fun _ => q) h0 l0 h1 l1 wr) (u0 u1 u2 x y z : Value) (T : TypeId) :
    Pair3S W A B p q h0 l0 h1 l1 wr.heap.size x y z ((((wr.alloc (.cells #[u0, u1, u2] T)).setCell ⟨wr.heap.size, 0, none⟩ x).setCell ⟨wr.heap.size, 1, none⟩ y).setCell ⟨wr.heap.size, 2, none⟩ z) :=
  have m := Pair3S.made (x := u0) (y := u1) (z := u2) (T := T) h
  have k := st3_at _ wr.heap.size x y z _ _ _ m.1 m.2.1 m.2.2.1
  have nA : wr.heap.size ≠ A := Nat.ne_of_gt (World.block_lt_of_cell? wr _ h.1)
  have nB : wr.heap.size ≠ B := Nat.ne_of_gt (World.block_lt_of_cell? wr _ h.2.2.2.1)
  have g := m.2.2.2
  ⟨k.1, k.2.1, k.2.2, (st3_far _ _ _ _ _ _ _ nA).trans g.1, (st3_far _ _ _ _ _ _ _ nA).trans g.2.1, (st3_far _ _ _ _ _ _ _ nA).trans g.2.2.1, (st3_far _ _ _ _ _ _ _ nB).trans g.2.2.2.1, (st3_far _ _ _ _ _ _ _ nB).trans g.2.2.2.2.1, (st3_far _ _ _ _ _ _ _ nB).trans g.2.2.2.2.2.1,
    fun j => (st3_frozen _ _ _ _ _ _).trans (g.2.2.2.2.2.2.1 j), fun j => (st3_frozen _ _ _ _ _ _).trans (g.2.2.2.2.2.2.2.1 j), st3_below g.2.2.2.2.2.2.2.2 h.2.2.2.2.2.2.2.2.size _ _ _⟩
theorem PairS.far {W : World} {A B : Nat} {p q : Value} {h0 l0 h1 l1 : Int} {wr : World} (h : PairS W A B (fun _ => p) (fun _ => q) h0 l0 h1 l1 wr) (X : Nat) (nA : X ≠ A) (nB : X ≠ B) (hX : W.heap.size ≤ X) (x y z : Value) :
    PairS W A B (fun _ => p) (fun _ => q) h0 l0 h1 l1 (((wr.setCell ⟨X, 0, none⟩ x).setCell ⟨X, 1, none⟩ y).setCell ⟨X, 2, none⟩ z) :=
  ⟨(st3_far _ _ _ _ _ _ _ nA).trans h.1, (st3_far _ _ _ _ _ _ _ nA).trans h.2.1, (st3_far _ _ _ _ _ _ _ nA).trans h.2.2.1, (st3_far _ _ _ _ _ _ _ nB).trans h.2.2.2.1, (st3_far _ _ _ _ _ _ _ nB).trans h.2.2.2.2.1, (st3_far _ _ _ _ _ _ _ nB).trans h.2.2.2.2.2.1,
    fun j => (st3_frozen _ _ _ _ _ _).trans (h.2.2.2.2.2.2.1 j), fun j => (st3_frozen _ _ _ _ _ _).trans (h.2.2.2.2.2.2.2.1 j), st3_below h.2.2.2.2.2.2.2.2 hX _ _ _⟩
theorem PairS.lt {W : World} {A B : Nat} {pa pb : World → Value} {h0 l0 h1 l1 : Int} {wr : World} (h : PairS W A B pa pb h0 l0 h1 l1 wr) : B < wr.heap.size := World.block_lt_of_cell? wr _ h.2.2.2.1
theorem Pair3S.still {W : World} {A B X : Nat} {p q x y z : Value} {h0 l0 h1 l1 : Int} {wr w' : World} (ha : KeepsC A (fun _ => p)) (hb : KeepsC B (fun _ => q)) (h : Pair3S W A B p q h0 l0 h1 l1 X x y z wr) (hB : Below wr.heap.size wr w') : Pair3S W A B p q h0 l0 h1 l1 X x y z w' :=
  ⟨below_cell h.1 hB, below_cell h.2.1 hB, below_cell h.2.2.1 hB, h.2.2.2.still ha hb hB⟩
theorem Pair3S.alloc {W : World} {A B X : Nat} {p q x y z : Value} {h0 l0 h1 l1 : Int} {wr : World} (h : Pair3S W A B p q h0 l0 h1 l1 X x y z wr) (o : Obj) : Pair3S W A B p q h0 l0 h1 l1 X x y z (wr.alloc o) :=
  h.still (keepsC_at A p) (keepsC_at B q) ((Below.refl _ _).alloc (Nat.le_refl _) _)
theorem Pair3S.beyond {W : World} {A B X : Nat} {p q x y z : Value} {h0 l0 h1 l1 : Int} {wr : World} (h : Pair3S W A B p q h0 l0 h1 l1 X x y z wr) (Y : Nat) (nX : Y ≠ X) (nA : Y ≠ A) (nB : Y ≠ B) (hY : W.heap.size ≤ Y) (x' y' z' : Value) :
    Pair3S W A B p q h0 l0 h1 l1 X x y z (((wr.setCell ⟨Y, 0, none⟩ x').setCell ⟨Y, 1, none⟩ y').setCell ⟨Y, 2, none⟩ z') :=
  ⟨(st3_far _ _ _ _ _ _ _ nX).trans h.1, (st3_far _ _ _ _ _ _ _ nX).trans h.2.1, (st3_far _ _ _ _ _ _ _ nX).trans h.2.2.1, h.2.2.2.far Y nA nB hY x' y' z'⟩
theorem Pair3S.ltX {W : World} {A B X : Nat} {p q x y z : Value} {h0 l0 h1 l1 : Int} {wr : World} (h : Pair3S W A B p q h0 l0 h1 l1 X x y z wr) : X < wr.heap.size := World.block_lt_of_cell? wr _ h.1
/-- A fourth box. -/
def Pair4S (W : World) (A B : Nat) (p q : Value) (h0 l0 h1 l1 : Int) (X Y : Nat) (x y z : Value) (w' : World) : Prop :=
  (w'.cell? ⟨Y, 0, none⟩ = some x ∧ w'.cell? ⟨Y, 1, none⟩ = some y ∧ w'.cell? ⟨Y, 2, none⟩ = some z) ∧ Pair3S W A B p q h0 l0 h1 l1 X x y z w'
theorem Pair4S.made {W : World} {A B X : Nat} {p q x y z : Value} {h0 l0 h1 l1 : Int} {wr : World} (h : Pair3S W A B p q h0 l0 h1 l1 X x y z wr) (T : TypeId) : Pair4S W A B p q h0 l0 h1 l1 X wr.heap.size x y z (wr.alloc (.cells #[x, y, z] T)) := by
  have hb : (wr.alloc (.cells #[x, y, z] T)).heap[wr.heap.size]? = some (.cells #[x, y, z] T (0, 0)) := box_new wr _
  exact ⟨⟨cell_blk hb 0, cell_blk hb 1, cell_blk hb 2⟩, h.alloc _⟩
theorem Pair4S.store {W : World} {A B X : Nat} {p q x y z : Value} {h0 l0 h1 l1 : Int} {wr : World} {Y : Nat} {u0 u1 u2 : Value} {T : TypeId} (hk : wr.heap[Y]? = some (.cells #[u0, u1, u2] T (0, 0))) (h : Pair3S W A B p q h0 l0 h1 l1 X x y z wr) (nX : Y ≠ X) (nA : Y ≠ A) (nB : Y ≠ B) (hY : W.heap.size ≤ Y) :
    Pair4S W A B p q h0 l0 h1 l1 X Y x y z (((wr.setCell ⟨Y, 0, none⟩ x).setCell ⟨Y, 1, none⟩ y).setCell ⟨Y, 2, none⟩ z) :=
  ⟨st3_at wr Y x y z _ _ _ (cell_blk hk 0) (cell_blk hk 1) (cell_blk hk 2), h.beyond Y nX nA nB hY x y z⟩
theorem Pair3S.store {W : World} {A B : Nat} {p q : Value} {h0 l0 h1 l1 : Int} {wr : World} {X : Nat} {u0 u1 u2 : Value} {T : TypeId} (hk : wr.heap[X]? = some (.cells #[u0, u1, u2] T (0, 0))) (h : PairS W A B (fun _ => p) (fun _ => q) h0 l0 h1 l1 wr) (nA : X ≠ A) (nB : X ≠ B) (hX : W.heap.size ≤ X) (x y z : Value) :
    Pair3S W A B p q h0 l0 h1 l1 X x y z (((wr.setCell ⟨X, 0, none⟩ x).setCell ⟨X, 1, none⟩ y).setCell ⟨X, 2, none⟩ z) :=
  have k := st3_at wr X x y z _ _ _ (cell_blk hk 0) (cell_blk hk 1) (cell_blk hk 2)
  ⟨k.1, k.2.1, k.2.2, h.far X nA nB hX x y z⟩
end Go.Proofs.YtapdocfifgnjgaaDoor
namespace Go.Proofs.YtapdocfifgnjgaaDoor
open Go.RowKit

theorem frac_join (a b : List UInt8) : ((⟨a.toArray⟩ : ByteArray) ++ ⟨#[47]⟩ ++ ⟨b.toArray⟩) = ⟨(a ++ 47 :: b).toArray⟩ := by
  apply ByteArray.ext
  simp
/-- The text of a fraction. -/
def fracT (n : Bool) (h l d : Int) : List UInt8 := if okF n h l d = true then Lib.itoa (sv n (h * 18446744073709551616 + l)) ++ 47 :: Lib.itoa d else []
set_option maxRecDepth 100000 in
set_option maxHeartbeats 1000000 in
theorem specFracText_no (n0 : Bool) (h0 l0 d0 : Int) (hk : Hid (okF n0 h0 l0 d0 = false)) (w : World) :
    Calls Tryd.prog 16 #[.agg #[.bool n0, .int .u64 h0, .int .u64 l0, .int .i64 d0]] w fun e w' => e = .returned (.string ⟨#[]⟩) ∧ Below w.heap.size w w' := by
  go_enter Tryd.func16, Tryd.ntmps16
  go_wp2_with fail
  refine (specFracOk n0 h0 l0 d0 _).mono ?_
  rintro e w1 ⟨rfl, hB1⟩
  rw [hk.out]
  have hA := box_kept hB1
  have HT := Lib.hid (box_below hB1)
  clear hB1
  go_wp2_with fail
  go_ret
  exact ⟨rfl, HT.out⟩
set_option maxRecDepth 100000 in
set_option maxHeartbeats 1000000 in
theorem specFracText_ok (n0 : Bool) (h0 l0 d0 : Int) (hp0 : 0 ≤ h0) (_hq0 : h0 < 18446744073709551616) (lp0 : 0 ≤ l0) (lq0 : l0 < 18446744073709551616) (dp0 : -9223372036854775808 ≤ d0) (dq0 : d0 ≤ 9223372036854775807) (tx td : List UInt8) (hk : Hid (okF n0 h0 l0 d0 = true)) (ht : Hid (textV n0 h0 l0 = tx)) (hd : Hid (Lib.itoa d0 = td)) (_a0 : tx.length ≤ 40) (_a1 : td.length ≤ 40) (a2 : ¬ 9223372036854775807 < tx.length + 1) (a3 : ¬ 9223372036854775807 < tx.length + 1 + td.length) (w : World) :
    Calls Tryd.prog 16 #[.agg #[.bool n0, .int .u64 h0, .int .u64 l0, .int .i64 d0]] w fun e w' => e = .returned (.string ⟨(tx ++ 47 :: td).toArray⟩) ∧ Below w.heap.size w w' := by
  go_enter Tryd.func16, Tryd.ntmps16
  go_wp2_with fail
  refine (specFracOk n0 h0 l0 d0 _).mono ?_
  rintro e w1 ⟨rfl, hB1⟩
  rw [hk.out]
  have hA := box_kept hB1
  have HT := Lib.hid (box_below hB1)
  clear hB1
  have cA0 : w1.cell? ⟨w.heap.size, 0, none⟩ = some (.bool n0) := cell_blk hA 0
  have cA1 : w1.cell? ⟨w.heap.size, 1, none⟩ = some (.int .u64 h0) := cell_blk hA 1
  have cA2 : w1.cell? ⟨w.heap.size, 2, none⟩ = some (.int .u64 l0) := cell_blk hA 2
  have cA3 : w1.cell? ⟨w.heap.size, 3, none⟩ = some (.int .i64 d0) := cell_blk hA 3
  go_wp2_with fail
  clear cA0 cA1 cA2 cA3
  have hDD : w1.drew.cell? ⟨w.heap.size, 0, none⟩ = some (.bool n0) ∧ w1.drew.cell? ⟨w.heap.size, 1, none⟩ = some (.int .u64 h0) ∧ w1.drew.cell? ⟨w.heap.size, 2, none⟩ = some (.int .u64 l0) ∧ w1.drew.cell? ⟨w.heap.size, 3, none⟩ = some (.int .i64 d0) := ⟨cell_blk (w := w1) hA 0, cell_blk (w := w1) hA 1, cell_blk (w := w1) hA 2, cell_blk (w := w1) hA 3⟩
  refine wp_region_noPanic ?_
  refine wp_region_held_drew (S := (fun w' => w'.cell? ⟨w.heap.size, 0, none⟩ = some (.bool n0) ∧ w'.cell? ⟨w.heap.size, 1, none⟩ = some (.int .u64 h0) ∧ w'.cell? ⟨w.heap.size, 2, none⟩ = some (.int .u64 l0) ∧ w'.cell? ⟨w.heap.size, 3, none⟩ = some (.int .i64 d0))) (by kernel_rfl) hDD (fun hHeld => ?_)
  clear hDD
  replace hA : w1.drew.heap[w.heap.size]? = _ := hA
  replace HT : Hid (Below w.heap.size w w1.drew) := Lib.hid (Below.drew HT.out)
  generalize w1.drew = wd at hA HT hHeld ⊢
  refine wpAnyH_take (i := 0) (oi := ?o1) (v := ?v1) ?hi1 ?hs1 ?hf1 ?hr1 ?hQ1 ?hy1 ?hS1 ?rest1
  case hi1 => rfl
  case hs1 => kernel_rfl
  case hf1 => kernel_rfl
  case hr1 => kernel_rfl
  case hQ1 => exact fun _ _ _ h => h
  case hS1 => assumption
  case hy1 =>
    refine Or.inl ⟨by kernel_rfl, ?_⟩
    intro w' hSw
    (try dsimp only at hSw)
    go_simp
    (try rfl)
  (try simp only [List.getElem_toArray, List.getElem_cons_zero, Act.put, List.setIfInBounds_toArray, List.set_cons_zero, List.set_cons_succ])
  refine wpAnyH_take (i := 1) (oi := ?o2) (v := ?v2) ?hi2 ?hs2 ?hf2 ?hr2 ?hQ2 ?hy2 ?hS2 ?rest2
  case hi2 => rfl
  case hs2 => kernel_rfl
  case hf2 => kernel_rfl
  case hr2 => kernel_rfl
  case hQ2 => exact fun _ _ _ h => h
  case hS2 => assumption
  case hy2 =>
    refine Or.inl ⟨by kernel_rfl, ?_⟩
    intro w' hSw
    (try dsimp only at hSw)
    go_simp
    (try rfl)
  (try simp only [List.getElem_toArray, List.getElem_cons_succ, List.getElem_cons_zero, Act.put, List.setIfInBounds_toArray, List.set_cons_zero, List.set_cons_succ])
  refine wpAnyH_take (i := 4) (oi := ?o3) (v := ?v3) ?hi3 ?hs3 ?hf3 ?hr3 ?hQ3 ?hy3 ?hS3 ?rest3
  case hi3 => rfl
  case hs3 => kernel_rfl
  case hf3 => kernel_rfl
  case hr3 => kernel_rfl
  case hQ3 => exact fun _ _ _ h => h
  case hS3 => assumption
  case hy3 =>
    refine Or.inl ⟨by kernel_rfl, ?_⟩
    intro w' hSw
    (try dsimp only at hSw)
    go_simp
    (try rfl)
  (try simp only [List.getElem_toArray, List.getElem_cons_succ, List.getElem_cons_zero, Act.put, List.setIfInBounds_toArray, List.set_cons_zero, List.set_cons_succ])
  refine wpAnyH_take (i := 5) (oi := ?o4) (v := ?v4) ?hi4 ?hs4 ?hf4 ?hr4 ?hQ4 ?hy4 ?hS4 ?rest4
  case hi4 => rfl
  case hs4 => kernel_rfl
  case hf4 => kernel_rfl
  case hr4 => kernel_rfl
  case hQ4 => exact fun _ _ _ h => h
  case hS4 => assumption
  case hy4 =>
    refine Or.inl ⟨by kernel_rfl, ?_⟩
    intro w' hSw
    (try dsimp only at hSw)
    go_simp
    (try rfl)
  (try simp only [List.getElem_toArray, List.getElem_cons_succ, List.getElem_cons_zero, Act.put, List.setIfInBounds_toArray, List.set_cons_zero, List.set_cons_succ])
  refine wpAnyH_ready (rs := [2]) (by kernel_rfl) (by simp) ?_
  refine AllReadyH.cons rfl (fun K hK => ?_) AllReadyH.nil
  go_simp
  refine (specWideText n0 h0 l0 hp0 lp0 lq0 _).mono ?_
  rintro e w2 ⟨rfl, hB2⟩
  rw [ht.out]
  replace hA := box_still hA hB2
  replace HT := Lib.hid (bt2 HT.out hB2)
  clear hB2
  refine hK.out _ _ ?_ (fun hHeld => ?_)
  · exact ⟨cell_blk hA 0, cell_blk hA 1, cell_blk hA 2, cell_blk hA 3⟩
  clear hK K
  (try simp only [List.getElem_toArray, List.getElem_cons_succ, List.getElem_cons_zero, Act.put, List.setIfInBounds_toArray, List.set_cons_zero, List.set_cons_succ])
  refine wpAnyH_take (i := 3) (oi := ?o5) (v := ?v5) ?hi5 ?hs5 ?hf5 ?hr5 ?hQ5 ?hy5 ?hS5 ?rest5
  case hi5 => rfl
  case hs5 => kernel_rfl
  case hf5 => kernel_rfl
  case hr5 => kernel_rfl
  case hQ5 => exact fun _ _ _ h => h
  case hS5 => assumption
  case hy5 =>
    refine Or.inl ⟨by kernel_rfl, ?_⟩
    intro w' hSw
    (try dsimp only at hSw)
    go_simp
    (try rfl)
  (try simp only [List.getElem_toArray, List.getElem_cons_succ, List.getElem_cons_zero, Act.put, List.setIfInBounds_toArray, List.set_cons_zero, List.set_cons_succ])
  refine wpAnyH_ready (rs := [6]) (by kernel_rfl) (by simp) ?_
  refine AllReadyH.cons rfl (fun K hK => ?_) AllReadyH.nil
  go_simp
  refine (specDigits d0 dp0 dq0 _).mono ?_
  rintro e w3 ⟨rfl, hB3⟩
  rw [hd.out]
  replace hA := box_still hA hB3
  replace HT := Lib.hid (bt2 HT.out hB3)
  clear hB3
  refine hK.out _ _ ?_ (fun hHeld => ?_)
  · exact ⟨cell_blk hA 0, cell_blk hA 1, cell_blk hA 2, cell_blk hA 3⟩
  clear hK K
  (try simp only [List.getElem_toArray, List.getElem_cons_succ, List.getElem_cons_zero, Act.put, List.setIfInBounds_toArray, List.set_cons_zero, List.set_cons_succ])
  refine wpAnyH_take (i := 7) (oi := ?o6) (v := ?v6) ?hi6 ?hs6 ?hf6 ?hr6 ?hQ6 ?hy6 ?hS6 ?rest6
  case hi6 => rfl
  case hs6 => kernel_rfl
  case hf6 => kernel_rfl
  case hr6 => kernel_rfl
  case hQ6 => exact fun _ _ _ h => h
  case hS6 => assumption
  case hy6 =>
    refine Or.inl ⟨by kernel_rfl, ?_⟩
    intro w' hSw
    (try dsimp only at hSw)
    go_simp
    (try rfl)
  (try simp only [List.getElem_toArray, List.getElem_cons_succ, List.getElem_cons_zero, Act.put, List.setIfInBounds_toArray, List.set_cons_zero, List.set_cons_succ])
  refine wpAnyH_take (i := 8) (oi := ?o7) (v := ?v7) ?hi7 ?hs7 ?hf7 ?hr7 ?hQ7 ?hy7 ?hS7 ?rest7
  case hi7 => rfl
  case hs7 => kernel_rfl
  case hf7 => kernel_rfl
  case hr7 => kernel_rfl
  case hQ7 => exact fun _ _ _ h => h
  case hS7 => assumption
  case hy7 =>
    refine Or.inl ⟨by kernel_rfl, ?_⟩
    intro w' hSw
    (try dsimp only at hSw)
    go_simp
    (try rfl)
  (try simp only [List.getElem_toArray, List.getElem_cons_succ, List.getElem_cons_zero, Act.put, List.setIfInBounds_toArray, List.set_cons_zero, List.set_cons_succ])
  refine wpAnyH_done (by kernel_rfl) ?_ _
  refine NoPanic.normal ?_
  go_wp2_with fail
  go_ret
  exact ⟨by rw [frac_join]; rfl, HT.out⟩
theorem itoa_short {d : Int} (d0 : 1 ≤ d) (d1 : d ≤ 1000000) : (Lib.itoa d).length ≤ 20 := by
  obtain ⟨u, rfl⟩ := Int.eq_ofNat_of_zero_le (by omega : 0 ≤ d)
  rw [Lib.itoa_nonneg]
  have := decDigits_len19 (u := u) (by omega)
  omega
/-- THE TEXT OF A FRACTION. -/
theorem specFracText (n0 : Bool) (h0 l0 d0 : Int) (hp0 : 0 ≤ h0) (hq0 : h0 < 18446744073709551616) (lp0 : 0 ≤ l0) (lq0 : l0 < 18446744073709551616) (dp0 : -9223372036854775808 ≤ d0) (dq0 : d0 ≤ 9223372036854775807) (w : World) :
    Calls Tryd.prog 16 #[.agg #[.bool n0, .int .u64 h0, .int .u64 l0, .int .i64 d0]] w fun e w' => e = .returned (.string ⟨(fracT n0 h0 l0 d0).toArray⟩) ∧ Below w.heap.size w w' := by
  by_cases hk : okF n0 h0 l0 d0 = true
  · have k := okF_yes hk
    have hl := (isW_parts (isW_text hp0 lp0 lq0 k.1)).2.2.2.2.2
    have hs := itoa_short k.2.1 k.2.2
    have e : textV n0 h0 l0 = Lib.itoa (sv n0 (h0 * 18446744073709551616 + l0)) := by rw [textV, if_pos k.1]
    rw [fracT, if_pos hk, ← e]
    exact specFracText_ok n0 h0 l0 d0 hp0 hq0 lp0 lq0 dp0 dq0 _ _ (Lib.hid hk) (Lib.hid rfl) (Lib.hid rfl) hl (by omega) (by omega) (by omega) w
  · rw [fracT, if_neg hk]
    exact specFracText_no n0 h0 l0 d0 (Lib.hid (by simpa using hk)) w
end Go.Proofs.YtapdocfifgnjgaaDoor
namespace Go.Proofs.YtapdocfifgnjgaaDoor
open Go.RowKit

open Classical in
/-- What reading a text ends in. -/
noncomputable def rdE (l : List UInt8) : Ending := if h : ∃ z, IsW l z then .returned (.tuple #[wideC h.choose, .bool true]) else .returned (.tuple #[.agg #[.bool false, .int .u64 0, .int .u64 0], .bool false])
theorem rdE_yes {l : List UInt8} {z : Int} (h : IsW l z) : rdE l = .returned (.tuple #[wideC z, .bool true]) := by
  have hx : ∃ z, IsW l z := ⟨z, h⟩
  rw [rdE, dif_pos hx, isW_one hx.choose_spec h]
theorem rdE_no {l : List UInt8} (h : ∀ z, ¬ IsW l z) : rdE l = .returned (.tuple #[.agg #[.bool false, .int .u64 0, .int .u64 0], .bool false]) := by
  rw [rdE, dif_neg (fun ⟨z, hz⟩ => h z hz)]
theorem at_byteW {s : ByteArray} {k : Nat} (h : k < s.size) : s.data.toList[k]? = some s[k] := by
  rw [Array.getElem?_toList]
  exact Array.getElem?_eq_getElem h
theorem wideC_nat (v : Nat) (h : v < 170141183460469231731687303715884105728) : wideC (v : Int) = .agg #[.bool false, .int .u64 ((v : Int) / 18446744073709551616), .int .u64 ((v : Int) % 18446744073709551616)] := by
  rw [wideC, show ((v : Int).natAbs : Int) = v by omega, decide_eq_false (by omega)]

theorem strNeW {l : List UInt8} {s : ByteArray} (h : l ≠ s.data.toList) : (!(l == s.toList)) = true := by
  rw [ByteArray.toList_eq]; simpa using h
theorem strEqW {l : List UInt8} {s : ByteArray} (h : l = s.data.toList) : (!(l == s.toList)) = false := by
  rw [ByteArray.toList_eq]; simpa using h
theorem nat_parts (v : Nat) (h : v < 170141183460469231731687303715884105728) : okV false ((v : Int) / 18446744073709551616) ((v : Int) % 18446744073709551616) = true := okV_mk (by omega) (fun k => by cases k)
theorem sv_parts (n : Bool) (v : Nat) : sv n ((v : Int) / 18446744073709551616 * 18446744073709551616 + (v : Int) % 18446744073709551616) = sv n v := by
  rw [show (v : Int) / 18446744073709551616 * 18446744073709551616 + (v : Int) % 18446744073709551616 = v by omega]
theorem textV_nat (v : Nat) (h : v < 170141183460469231731687303715884105728) : textV false ((v : Int) / 18446744073709551616) ((v : Int) % 18446744073709551616) = Lib.itoa (v : Int) := by
  rw [textV, if_pos (nat_parts v h), sv_parts]; rfl
theorem negV_parts (v : Nat) (h : v < 170141183460469231731687303715884105728) : negV false ((v : Int) / 18446744073709551616) ((v : Int) % 18446744073709551616) = decide ((0 : Int) < v) := by
  rw [negV_ok (by omega) (by omega) (nat_parts v h)]
  by_cases hv : v = 0
  · subst hv; simp [sgV]
  · rw [show decide ((0 : Int) < v) = true by simp; omega]
    simp [sgV]; omega
theorem min_parts (v : Nat) : sv (decide ((0 : Int) < v)) v = -(v : Int) := by
  by_cases hv : v = 0
  · subst hv; simp [sv]
  · rw [show decide ((0 : Int) < v) = true by simp; omega]; simp [sv]
theorem okV_min (v : Nat) (h : v < 170141183460469231731687303715884105728) : okV (decide ((0 : Int) < v)) ((v : Int) / 18446744073709551616) ((v : Int) % 18446744073709551616) = true := okV_mk (by omega) (fun k => by simp at k; omega)
theorem textV_min (v : Nat) (h : v < 170141183460469231731687303715884105728) : textV (negV false ((v : Int) / 18446744073709551616) ((v : Int) % 18446744073709551616)) ((v : Int) / 18446744073709551616) ((v : Int) % 18446744073709551616) = Lib.itoa (-(v : Int)) := by
  rw [negV_parts v h, textV, if_pos (okV_min v h), sv_parts, min_parts]
theorem wideC_min (v : Nat) (h : v < 170141183460469231731687303715884105728) : wideC (-(v : Int)) = .agg #[.bool (negV false ((v : Int) / 18446744073709551616) ((v : Int) % 18446744073709551616)), .int .u64 ((v : Int) / 18446744073709551616), .int .u64 ((v : Int) % 18446744073709551616)] := by
  rw [negV_parts v h, wideC, show ((-(v : Int)).natAbs : Int) = v by omega, show decide (-(v : Int) < 0) = decide ((0 : Int) < v) by congr 1; simp]
theorem PairS.putB {W : World} {A B : Nat} {p q : Value} {h0 l0 h1 l1 : Int} {wr : World} (h : PairS W A B (fun _ => p) (fun _ => q) h0 l0 h1 l1 wr) (hA : W.heap.size ≤ B) (hne : B ≠ A) (u : Value) (h2 l2 : Int) :
    PairS W A B (fun _ => p) (fun _ => u) h0 l0 h2 l2 (((wr.setCell ⟨B, 0, none⟩ u).setCell ⟨B, 1, none⟩ (.int .u64 h2)).setCell ⟨B, 2, none⟩ (.int .u64 l2)) :=
  have k := st3_at wr B u (.int .u64 h2) (.int .u64 l2) _ _ _ h.2.2.2.1 h.2.2.2.2.1 h.2.2.2.2.2.1
  ⟨(st3_far _ _ _ _ _ _ _ hne).trans h.1, (st3_far _ _ _ _ _ _ _ hne).trans h.2.1, (st3_far _ _ _ _ _ _ _ hne).trans h.2.2.1, k.1, k.2.1, k.2.2,
    fun j => (st3_frozen _ _ _ _ _ _).trans (h.2.2.2.2.2.2.1 j), fun j => (st3_frozen _ _ _ _ _ _).trans (h.2.2.2.2.2.2.2.1 j), st3_below h.2.2.2.2.2.2.2.2 hA _ _ _⟩
theorem ten_yes {v : Nat} {d : Int} (hv : v < 170141183460469231731687303715884105728) (d0 : 0 ≤ d) (d1 : d ≤ 9) (hb : (v : Int) * 10 + d < 170141183460469231731687303715884105728) :
    tenE false ((v : Int) / 18446744073709551616) ((v : Int) % 18446744073709551616) d = .returned (.tuple #[.agg #[.bool false, .int .u64 (((v : Int) * 10 + d) / 18446744073709551616), .int .u64 (((v : Int) * 10 + d) % 18446744073709551616)], .bool true]) := by
  have hk : okV false ((v : Int) / 18446744073709551616) ((v : Int) % 18446744073709551616) = true := okV_mk (by omega) (fun k => by cases k)
  have e : sv false ((v : Int) / 18446744073709551616 * 18446744073709551616 + (v : Int) % 18446744073709551616) * 10 + sv false d = (v : Int) * 10 + d := by
    simp [sv]; omega
  rw [tenE, if_pos ⟨hk, d0, d1⟩, e, fitW_in (by unfold RoomW; omega)]
  rw [wideC, show (((v : Int) * 10 + d).natAbs : Int) = (v : Int) * 10 + d by omega, decide_eq_false (by omega)]
theorem ten_yes2 {v v2 : Nat} {d : Int} (hv : v < 170141183460469231731687303715884105728) (d0 : 0 ≤ d) (d1 : d ≤ 9) (h2 : (v2 : Int) = (v : Int) * 10 + d) (hb : v2 < 170141183460469231731687303715884105728) :
    tenE false ((v : Int) / 18446744073709551616) ((v : Int) % 18446744073709551616) d = .returned (.tuple #[.agg #[.bool false, .int .u64 ((v2 : Int) / 18446744073709551616), .int .u64 ((v2 : Int) % 18446744073709551616)], .bool true]) := by
  rw [h2]; exact ten_yes hv d0 d1 (by omega)
theorem ten_no {v : Nat} {d : Int} (hv : v < 170141183460469231731687303715884105728) (h : d < 0 ∨ 9 < d ∨ 170141183460469231731687303715884105728 ≤ (v : Int) * 10 + d) :
    tenE false ((v : Int) / 18446744073709551616) ((v : Int) % 18446744073709551616) d = .returned (.tuple #[.agg #[.bool false, .int .u64 0, .int .u64 0], .bool false]) := by
  rw [tenE]
  split
  · rename_i k
    have e : sv false ((v : Int) / 18446744073709551616 * 18446744073709551616 + (v : Int) % 18446744073709551616) * 10 + sv false d = (v : Int) * 10 + d := by
      simp [sv]; omega
    rw [e]
    exact (fitW_no (by unfold RoomW; omega)).symm
  · rfl

theorem startOf_posW {s : ByteArray} (h : 0 < s.size) : startOf s.data.toList = if (s[0].toNat) = 45 then 1 else 0 := by
  unfold startOf
  have e : s.data.toList.head? = some s[0] := by
    rw [List.head?_eq_getElem?, Array.getElem?_toList]
    exact Array.getElem?_eq_getElem h
  rw [e]
  simp
theorem isW_len {l : List UInt8} (h : l.length < 1 ∨ 40 < l.length) : ∀ z, ¬ IsW l z := fun z hz => by
  have := (isW_parts hz).2.2.2.2
  omega
end Go.Proofs.YtapdocfifgnjgaaDoor
namespace Go.Proofs.YtapdocfifgnjgaaDoor
open Go.RowKit

/-- Two wide numbers, whatever they are. -/
def TwoWOut (e : Ending) : Prop := ∃ (n : Bool) (h l : Int) (m : Bool) (k j : Int), (0 ≤ h ∧ h < 18446744073709551616) ∧ (0 ≤ l ∧ l < 18446744073709551616) ∧ (0 ≤ k ∧ k < 18446744073709551616) ∧ (0 ≤ j ∧ j < 18446744073709551616) ∧ e = .returned (.tuple #[.agg #[.bool n, .int .u64 h, .int .u64 l], .agg #[.bool m, .int .u64 k, .int .u64 j]])
theorem results_cells2 {fn : Func} {p q : Tmp} {ty tz : TypeId} (h : fn.results = #[.cell p ty, .cell q tz]) (tmps : Array Value) (P : Program) (w : World) :
    (results fn tmps).run P w = ((asAddr (tmps.getD p undef)).run P w).andThen fun a w1 => ((loadVar ty a).run P w1).andThen fun u w2 => ((asAddr (tmps.getD q undef)).run P w2).andThen fun b w3 => ((loadVar tz b).run P w3).andThen fun v w4 => .ok (.tuple #[u, v]) w4 := by
  simp only [results, h]
  simp [Sem.run_bind, Result.andThen]

theorem Cur.drew {W w : World} {p : Nat} (h : Cur W w p) : Cur W w.drew p := by
  obtain ⟨hp, hB, v, n, i, y, hby, hi, h0, h1, hblk⟩ := h
  exact ⟨hp, hB.drew, v, n, i, y, hby, hi, h0, h1, hblk⟩
end Go.Proofs.YtapdocfifgnjgaaDoor
