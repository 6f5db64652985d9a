/-
  The laws' own helpers on settings: equal, their size, their copy, their marks.
-/
import Derived.Test.YtnnbhgnllbjmeaaDoorBas
import Derived.Test.YtnnbhgnllbjmeaaDoorRowI
import Derived.Test.YtnnbhgnllbjmeaaDoorArgsB
import Derived.Test.YtnnbhgnllbjmeaaDoorCfgM
import Derived.Laws.ResultCell
import Derived.Deep.Onto
import Derived.OneCell
namespace Go.Proofs.YtnnbhgnllbjmeaaDoor
open Go.RowKit

theorem results_one {fn : Func} {p : Tmp} {ty : TypeId} (h : fn.results = #[.cell p ty]) (tmps : Array Value) (P : Program) (w : World) :
    (results fn tmps).run P w = ((asAddr (tmps.getD p undef)).run P w).andThen fun a w1 => (loadVar ty a).run P w1 := by
  simp only [results, h]
  simp [Sem.run_bind, Result.andThen]
theorem size_alloc (w : World) (o : Obj) : (w.alloc o).heap.size = w.heap.size + 1 := by simp
theorem blk_alloc {w : World} {b : Nat} {o : Obj} (h : w.heap[b]? = some o) (x : Obj) : (w.alloc x).heap[b]? = some o := (Below.heap_alloc w x b (blk_lt h)).trans h
theorem below_al (w : World) (o : Obj) : Below w.heap.size w (w.alloc o) := (Below.refl _ _).alloc (Nat.le_refl _) _
theorem grownBy_alc (w : World) (o : Obj) (r : Option Nat) : w.grownBy (w.alloc o) r := ⟨rfl, rfl, rfl, by simp, fun i hi _ => Below.heap_alloc w o i hi⟩
theorem ownsI_below {w w' : World} {base n : Nat} {T : TypeId} {v : Value} {xs : List Value} (h : w.ownsRow base T 1 v n xs) (hB : Below w.heap.size w w') : w'.ownsRow base T 1 v n xs :=
  h.kept (row := none) ⟨hB.os, hB.tape, hB.output, hB.size, fun k hk _ => hB.block k hk⟩ (by cases hv : v.ownBlock <;> simp)
theorem ownsI_form {w : World} {base s n : Nat} {T : TypeId} {v : Value} {xs : List Value} (h : w.ownsRow base T s v n xs) : ∃ a c, v = .slice a n c := by
  rcases h.2 with ⟨rfl, rfl⟩ | ⟨g, cap, cur, rfl, _⟩
  · exact ⟨_, _, rfl⟩
  · exact ⟨_, _, rfl⟩

set_option maxRecDepth 100000 in
theorem eqCfg (C : Cfg) (u1 u2 : Value) (w : World) (h1 : IntRow w u1 C.s) (h2 : IntRow w u2 C.s) :
    Calls Tryd.prog 9 #[.agg #[.int .i64 C.r, .int .i64 C.d, .int .i64 C.b, .int .i64 C.l, .int .i64 C.m, .int .i64 C.n, .int .i64 C.e, u1], .agg #[.int .i64 C.r, .int .i64 C.d, .int .i64 C.b, .int .i64 C.l, .int .i64 C.m, .int .i64 C.n, .int .i64 C.e, u2]] w fun e w' => e = .returned (.bool true) ∧ Below w.heap.size w w' := by
  obtain ⟨a1, c1, rfl, _⟩ := intRow_form h1
  obtain ⟨a2, c2, rfl, _⟩ := intRow_form h2
  go_enter Tryd.func9, Tryd.ntmps9
  go_wp2_with fail
  have hA := below_al w (.cells #[.int .i64 C.r, .int .i64 C.d, .int .i64 C.b, .int .i64 C.l, .int .i64 C.m, .int .i64 C.n, .int .i64 C.e, .slice a1 C.s.length c1] 27)
  have hA2 := bt hA (below_al _ (.cells #[.int .i64 C.r, .int .i64 C.d, .int .i64 C.b, .int .i64 C.l, .int .i64 C.m, .int .i64 C.n, .int .i64 C.e, .slice a2 C.s.length c2] 27))
  refine (eqI _ _ _ C.s (h1.below hA2) (h2.below hA2)).mono ?_
  rintro e w1 ⟨rfl, q, rfl⟩
  go_wp2_with fail
  go_ret
  exact ⟨rfl, below_drewN2 hA2 q⟩

set_option maxRecDepth 100000 in
theorem szCfg_not (C : Cfg) (u : Value) (left : Nat) (w : World) (h : IntRow w u C.s) (hleft : left ≤ 1048576) (hc : left < C.s.length) :
    Calls Tryd.prog 5 #[.agg #[.int .i64 C.r, .int .i64 C.d, .int .i64 C.b, .int .i64 C.l, .int .i64 C.m, .int .i64 C.n, .int .i64 C.e, u], .int .i64 left] w fun e w' => e = .returned (.int .i64 (-1)) ∧ Below w.heap.size w w' := by
  obtain ⟨a, c, rfl, hl, _⟩ := intRow_form h
  go_enter Tryd.func5, Tryd.ntmps5
  go_wp2_with fail
  refine (szI_not _ a C.s.length c left hleft hl hc).mono ?_
  rintro e w1 ⟨rfl, rfl⟩
  go_wp2_with fail
  go_ret
  exact ⟨rfl, below_al w _⟩

set_option maxRecDepth 100000 in
theorem szCfg_fits (C : Cfg) (u : Value) (left : Nat) (w : World) (h : IntRow w u C.s) (hleft : left ≤ 1048576) (hc : C.s.length ≤ left) :
    Calls Tryd.prog 5 #[.agg #[.int .i64 C.r, .int .i64 C.d, .int .i64 C.b, .int .i64 C.l, .int .i64 C.m, .int .i64 C.n, .int .i64 C.e, u], .int .i64 left] w fun e w' => e = .returned (.int .i64 ((left - C.s.length : Nat) : Int)) ∧ Below w.heap.size w w' := by
  obtain ⟨a, c, rfl, hl, _⟩ := intRow_form h
  have h0 : ¬ ((left - C.s.length : Nat) : Int) < 0 := by omega
  go_enter Tryd.func5, Tryd.ntmps5
  go_wp2_with fail
  refine (szI_fits _ a C.s.length c left hleft hc).mono ?_
  rintro e w1 ⟨rfl, rfl⟩
  go_wp2_with fail
  go_ret
  exact ⟨rfl, below_al w _⟩

set_option maxRecDepth 100000 in
theorem markCfg (C : Cfg) (u : Value) (base n k : Nat) (xs : List Value) (w : World) (h : w.ownsRow base 3 1 u n xs) (hl : n ≤ 1048576) (hkl : k ≤ 1048576) :
    Calls Tryd.prog 13 #[.agg #[.int .i64 C.r, .int .i64 C.d, .int .i64 C.b, .int .i64 C.l, .int .i64 C.m, .int .i64 C.n, .int .i64 C.e, u], .int .i64 k] w fun e w' => e = .returned (.int .i64 ((k : Int) + n)) ∧ w'.ownsRow base 3 1 u n (intCells (marksI k n)) ∧ w.grownBy w' u.ownBlock := by
  obtain ⟨a, c, rfl⟩ := ownsI_form h
  go_enter Tryd.func13, Tryd.ntmps13
  go_wp2_with fail
  refine (markI _ base n k _ xs (h.alloc _) (by omega) (by omega)).mono ?_
  rintro e w1 ⟨rfl, ho, hg⟩
  go_wp2_with fail
  go_ret
  exact ⟨rfl, ho, grownBy_trans (grownBy_alc w _ _) hg⟩

set_option maxRecDepth 100000 in
theorem heldCfg (C : Cfg) (u : Value) (n k : Nat) (w : World) (h : IntRow w u (marksI k n)) (hl : n ≤ 1048576) (hkl : k ≤ 1048576) :
    Calls Tryd.prog 14 #[.agg #[.int .i64 C.r, .int .i64 C.d, .int .i64 C.b, .int .i64 C.l, .int .i64 C.m, .int .i64 C.n, .int .i64 C.e, u], .int .i64 k] w fun e w' => e = .returned (.int .i64 ((k : Int) + n)) ∧ Below w.heap.size w w' := by
  have h0 : ¬ (k : Int) + n < 0 := by omega
  obtain ⟨a, c, rfl, _⟩ := intRow_form h
  go_enter Tryd.func14, Tryd.ntmps14
  go_wp2_with fail
  refine (heldI _ _ n k (h.below (below_al w _)) (by omega) (by omega)).mono ?_
  rintro e w1 ⟨rfl, q, rfl⟩
  go_wp2_with fail
  go_ret
  exact ⟨rfl, below_drewN2 (below_al w _) q⟩

set_option maxRecDepth 100000 in
set_option maxHeartbeats 2000000 in
theorem toCfg (C : Cfg) (u : Value) (w : World) (h : IntRow w u C.s) (hl : C.s.length ≤ 1048576) :
    Calls Tryd.prog 7 #[.agg #[.int .i64 C.r, .int .i64 C.d, .int .i64 C.b, .int .i64 C.l, .int .i64 C.m, .int .i64 C.n, .int .i64 C.e, u]] w fun e w' => (∃ v, e = .returned (.agg #[.int .i64 C.r, .int .i64 C.d, .int .i64 C.b, .int .i64 C.l, .int .i64 C.m, .int .i64 C.n, .int .i64 C.e, v]) ∧ w'.ownsRow w.heap.size 3 1 v C.s.length (intCells C.s)) ∧ Below w.heap.size w w' := by
  obtain ⟨a, c, rfl, _⟩ := intRow_form h
  go_enter Tryd.func7, Tryd.ntmps7
  go_wp2_with fail
  have hA := bt (bt (below_al w (.cells #[.int .i64 C.r, .int .i64 C.d, .int .i64 C.b, .int .i64 C.l, .int .i64 C.m, .int .i64 C.n, .int .i64 C.e, .slice a C.s.length c] 24)) (below_al _ (.cells #[.int .i64 0, .int .i64 0, .int .i64 0, .int .i64 0, .int .i64 0, .int .i64 0, .int .i64 0, .slice none 0 0] 27))) (below_al _ (.cells #[.int .i64 C.r, .int .i64 C.d, .int .i64 C.b, .int .i64 C.l, .int .i64 C.m, .int .i64 C.n, .int .i64 C.e, .slice none 0 0] 27))
  refine (toI _ _ C.s (h.below hA) hl).mono ?_
  rintro e w1 ⟨v, rfl, ho, hB⟩
  have x2 := blk_next (blk_alloc (alloc_blk (w.alloc (.cells #[.int .i64 C.r, .int .i64 C.d, .int .i64 C.b, .int .i64 C.l, .int .i64 C.m, .int .i64 C.n, .int .i64 C.e, .slice a C.s.length c] 24)) #[.int .i64 0, .int .i64 0, .int .i64 0, .int .i64 0, .int .i64 0, .int .i64 0, .int .i64 0, .slice none 0 0] 27) (.cells #[.int .i64 C.r, .int .i64 C.d, .int .i64 C.b, .int .i64 C.l, .int .i64 C.m, .int .i64 C.n, .int .i64 C.e, .slice none 0 0] 27)) hB
  have x3 := blk_next (alloc_blk ((w.alloc (.cells #[.int .i64 C.r, .int .i64 C.d, .int .i64 C.b, .int .i64 C.l, .int .i64 C.m, .int .i64 C.n, .int .i64 C.e, .slice a C.s.length c] 24)).alloc (.cells #[.int .i64 0, .int .i64 0, .int .i64 0, .int .i64 0, .int .i64 0, .int .i64 0, .int .i64 0, .slice none 0 0] 27)) #[.int .i64 C.r, .int .i64 C.d, .int .i64 C.b, .int .i64 C.l, .int .i64 C.m, .int .i64 C.n, .int .i64 C.e, .slice none 0 0] 27) hB
  simp only [size_alloc] at x2 x3
  have ca0 := cell_blk x2 0
  have fa0 := free_blk x2 0
  have ca1 := cell_blk x2 1
  have fa1 := free_blk x2 1
  have ca2 := cell_blk x2 2
  have fa2 := free_blk x2 2
  have ca3 := cell_blk x2 3
  have fa3 := free_blk x2 3
  have ca4 := cell_blk x2 4
  have fa4 := free_blk x2 4
  have ca5 := cell_blk x2 5
  have fa5 := free_blk x2 5
  have ca6 := cell_blk x2 6
  have fa6 := free_blk x2 6
  have ca7 := cell_blk x2 7
  have fa7 := free_blk x2 7
  have la := blk_lt x2
  have cb0 := cell_blk x3 0
  have fb0 := free_blk x3 0
  have cb1 := cell_blk x3 1
  have fb1 := free_blk x3 1
  have cb2 := cell_blk x3 2
  have fb2 := free_blk x3 2
  have cb3 := cell_blk x3 3
  have fb3 := free_blk x3 3
  have cb4 := cell_blk x3 4
  have fb4 := free_blk x3 4
  have cb5 := cell_blk x3 5
  have fb5 := free_blk x3 5
  have cb6 := cell_blk x3 6
  have fb6 := free_blk x3 6
  have cb7 := cell_blk x3 7
  have fb7 := free_blk x3 7
  have lb := blk_lt x3
  obtain ⟨av, cv, rfl⟩ := ownsI_form ho
  have hn2 : (Value.slice av C.s.length cv).ownBlock ≠ some (w.heap.size + 1) := fun e => by have := (ho.lt _ e).1; simp at this; omega
  have hn3 : (Value.slice av C.s.length cv).ownBlock ≠ some (w.heap.size + 1 + 1) := fun e => by have := (ho.lt _ e).1; simp at this; omega
  have ho2 := World.ownsRow.mono ho hA.size
  have hB2 := bt hA hB
  clear ho hB hA h
  go_wp2_with fail
  refine bodyPost_ret (v := .agg #[.int .i64 C.r, .int .i64 C.d, .int .i64 C.b, .int .i64 C.l, .int .i64 C.m, .int .i64 C.n, .int .i64 C.e, .slice av C.s.length cv]) ?_ rfl ⟨⟨_, rfl, ?_⟩, ?_⟩
  · rw [results_one rfl]
    go_simp
  · iterate 8 refine ownsRow_setCell_other ?_ hn2 _
    exact ownsRow_setCell_other ho2 hn3 _
  · iterate 9 refine Below.setCell ?_ (by simp <;> omega) _
    exact hB2

end Go.Proofs.YtnnbhgnllbjmeaaDoor
