/-
  What a line lays: the reference's way.
-/
import Derived.Test.YtnnbhgnllbjmeaaGreatDoorCfgZ
namespace Go.Proofs.YtnnbhgnllbjmeaaGreatDoor
open Go.RowKit

theorem sgPost_yes' {w w' : World} {l : List UInt8} {zs : List Int} {e : Ending} (h : signsV l = some zs) (hp : SgPost w l e w') : ∃ v, e = .returned (.tuple #[v, .bool true]) ∧ w'.ownsRow w.heap.size 3 1 v zs.length (intCells zs) := by
  rcases hp with ⟨ys, v, hy, he, ho⟩ | ⟨hn, _⟩
  · rw [h] at hy
    obtain rfl := Option.some.inj hy
    exact ⟨v, he, ho⟩
  · rw [h] at hn
    cases hn
theorem sgPost_none' {w w' : World} {l : List UInt8} {e : Ending} (h : signsV l = none) (hp : SgPost w l e w') : ∃ v, e = .returned (.tuple #[v, .bool false]) ∧ w'.ownsRow w.heap.size 3 1 v 0 [] := by
  rcases hp with ⟨ys, v, hy, _, _⟩ | ⟨_, v, he, ho⟩
  · rw [h] at hy
    cases hy
  · exact ⟨v, he, ho⟩
theorem sg_len {l : List UInt8} {zs : List Int} (h : signsV l = some zs) : zs.length ≤ 4 := by
  unfold signsV at h
  split at h
  · cases h
  · have := (sgnsV_ok h).1; omega
theorem sg_row {w' : World} {base : Nat} {v : Value} {zs : List Int} (hl : zs.length ≤ 4) (h : w'.ownsRow base 3 1 v zs.length (intCells zs)) : IntRow w' v zs := intRow_of_owns h (by omega)
theorem sg_row0 {w' : World} {base : Nat} {v : Value} (h : w'.ownsRow base 3 1 v 0 []) : IntRow w' v [] := intRow_of_owns h (by simp)
set_option maxRecDepth 100000 in
set_option maxHeartbeats 2000000 in
theorem specLay_s (C : Cfg) (a : Option Addr) (n c : Nat) (s : ByteArray) (hs : s.size ≤ 1048576) (zs : List Int) (hz : Hid (signsV s.data.toList = some zs)) (w : World) :
    Calls Tryz.prog 39 #[.agg #[.int .i64 C.r, .int .i64 C.d, .int .i64 C.b, .int .i64 C.l, .int .i64 C.m, .int .i64 C.n, .int .i64 C.e, .slice a n c], .int .i64 6, .string s] w fun e w' => (∃ v, e = .returned (.tuple #[.agg #[.int .i64 C.r, .int .i64 C.d, .int .i64 C.b, .int .i64 C.l, .int .i64 C.m, .int .i64 C.n, .int .i64 C.e, v], .int .i64 0]) ∧ w'.ownsRow w.heap.size 3 1 v zs.length (intCells zs)) ∧ Below w.heap.size w w' := by
  go_enter Tryz.func39, Tryz.ntmps39
  go_wp2_with fail
  refine (specSigns s hs _).mono ?_
  rintro e w1 ⟨hp, hB1⟩
  obtain ⟨v, rfl, ho⟩ := sgPost_yes' hz.out hp
  obtain ⟨av, cv, rfl⟩ := ownsI_form ho
  have xa := blk_next (blk_alloc (alloc_blk w #[.int .i64 C.r, .int .i64 C.d, .int .i64 C.b, .int .i64 C.l, .int .i64 C.m, .int .i64 C.n, .int .i64 C.e, .slice a n c] 26) (.cells #[.int .i64 0, .int .i64 0, .int .i64 0, .int .i64 0, .int .i64 0, .int .i64 0, .int .i64 0, .slice none 0 0] 26)) hB1
  have xb := blk_next (alloc_blk (w.alloc (.cells #[.int .i64 C.r, .int .i64 C.d, .int .i64 C.b, .int .i64 C.l, .int .i64 C.m, .int .i64 C.n, .int .i64 C.e, .slice a n c] 26)) #[.int .i64 0, .int .i64 0, .int .i64 0, .int .i64 0, .int .i64 0, .int .i64 0, .int .i64 0, .slice none 0 0] 26) hB1
  have B01 := bt (bt (below_al w (.cells #[.int .i64 C.r, .int .i64 C.d, .int .i64 C.b, .int .i64 C.l, .int .i64 C.m, .int .i64 C.n, .int .i64 C.e, .slice a n c] 26)) (below_al _ (.cells #[.int .i64 0, .int .i64 0, .int .i64 0, .int .i64 0, .int .i64 0, .int .i64 0, .int .i64 0, .slice none 0 0] 26))) hB1
  simp only [size_alloc] at xb
  have ca0 := cell_blk xa 0
  have fa0 := free_blk xa 0
  have ca1 := cell_blk xa 1
  have fa1 := free_blk xa 1
  have ca2 := cell_blk xa 2
  have fa2 := free_blk xa 2
  have ca3 := cell_blk xa 3
  have fa3 := free_blk xa 3
  have ca4 := cell_blk xa 4
  have fa4 := free_blk xa 4
  have ca5 := cell_blk xa 5
  have fa5 := free_blk xa 5
  have ca6 := cell_blk xa 6
  have fa6 := free_blk xa 6
  have ca7 := cell_blk xa 7
  have fa7 := free_blk xa 7
  have la := blk_lt xa
  have cb0 := cell_blk xb 0
  have fb0 := free_blk xb 0
  have cb1 := cell_blk xb 1
  have fb1 := free_blk xb 1
  have cb2 := cell_blk xb 2
  have fb2 := free_blk xb 2
  have cb3 := cell_blk xb 3
  have fb3 := free_blk xb 3
  have cb4 := cell_blk xb 4
  have fb4 := free_blk xb 4
  have cb5 := cell_blk xb 5
  have fb5 := free_blk xb 5
  have cb6 := cell_blk xb 6
  have fb6 := free_blk xb 6
  have cb7 := cell_blk xb 7
  have fb7 := free_blk xb 7
  have lb := blk_lt xb
  have hn1 : (Value.slice av zs.length cv).ownBlock ≠ some w.heap.size := fun e => by have := (ho.lt _ e).1; simp at this; omega
  have hn2 : (Value.slice av zs.length cv).ownBlock ≠ some (w.heap.size + 1) := fun e => by have := (ho.lt _ e).1; simp at this; omega
  have HO := Lib.hid (World.ownsRow.mono (base' := w.heap.size) ho (by simp <;> omega))
  have HT := Lib.hid B01
  clear ho B01 hB1 xa xb
  go_wp2_with fail
  (try simp only [Exit.inBlock, Exit.then])
  refine bodyPost_ret (v := .tuple #[.agg #[.int .i64 C.r, .int .i64 C.d, .int .i64 C.b, .int .i64 C.l, .int .i64 C.m, .int .i64 C.n, .int .i64 C.e, (.slice av zs.length cv)], .int .i64 0]) ?_ rfl ⟨⟨_, rfl, ?_⟩, ?_⟩
  · rw [results_cell_tmp rfl]
    go_simp
  · iterate 8 refine ownsRow_setCell_other ?_ hn2 _
    exact ownsRow_setCell_other HO.out hn1 _
  · iterate 9 refine Below.setCell ?_ (by simp <;> omega) _
    exact HT.out
set_option maxRecDepth 100000 in
set_option maxHeartbeats 2000000 in
theorem specLay_sn (C : Cfg) (a : Option Addr) (n c : Nat) (s : ByteArray) (hs : s.size ≤ 1048576) (hz : Hid (signsV s.data.toList = none)) (w : World) :
    Calls Tryz.prog 39 #[.agg #[.int .i64 C.r, .int .i64 C.d, .int .i64 C.b, .int .i64 C.l, .int .i64 C.m, .int .i64 C.n, .int .i64 C.e, .slice a n c], .int .i64 6, .string s] w fun e w' => (∃ v, e = .returned (.tuple #[.agg #[.int .i64 C.r, .int .i64 C.d, .int .i64 C.b, .int .i64 C.l, .int .i64 C.m, .int .i64 C.n, .int .i64 C.e, v], .int .i64 14]) ∧ w'.ownsRow w.heap.size 3 1 v 0 []) ∧ Below w.heap.size w w' := by
  go_enter Tryz.func39, Tryz.ntmps39
  go_wp2_with fail
  refine (specSigns s hs _).mono ?_
  rintro e w1 ⟨hp, hB1⟩
  obtain ⟨v, rfl, ho⟩ := sgPost_none' hz.out hp
  obtain ⟨av, cv, rfl⟩ := ownsI_form ho
  have xa := blk_next (blk_alloc (alloc_blk w #[.int .i64 C.r, .int .i64 C.d, .int .i64 C.b, .int .i64 C.l, .int .i64 C.m, .int .i64 C.n, .int .i64 C.e, .slice a n c] 26) (.cells #[.int .i64 0, .int .i64 0, .int .i64 0, .int .i64 0, .int .i64 0, .int .i64 0, .int .i64 0, .slice none 0 0] 26)) hB1
  have xb := blk_next (alloc_blk (w.alloc (.cells #[.int .i64 C.r, .int .i64 C.d, .int .i64 C.b, .int .i64 C.l, .int .i64 C.m, .int .i64 C.n, .int .i64 C.e, .slice a n c] 26)) #[.int .i64 0, .int .i64 0, .int .i64 0, .int .i64 0, .int .i64 0, .int .i64 0, .int .i64 0, .slice none 0 0] 26) hB1
  have B01 := bt (bt (below_al w (.cells #[.int .i64 C.r, .int .i64 C.d, .int .i64 C.b, .int .i64 C.l, .int .i64 C.m, .int .i64 C.n, .int .i64 C.e, .slice a n c] 26)) (below_al _ (.cells #[.int .i64 0, .int .i64 0, .int .i64 0, .int .i64 0, .int .i64 0, .int .i64 0, .int .i64 0, .slice none 0 0] 26))) hB1
  simp only [size_alloc] at xb
  have ca0 := cell_blk xa 0
  have fa0 := free_blk xa 0
  have ca1 := cell_blk xa 1
  have fa1 := free_blk xa 1
  have ca2 := cell_blk xa 2
  have fa2 := free_blk xa 2
  have ca3 := cell_blk xa 3
  have fa3 := free_blk xa 3
  have ca4 := cell_blk xa 4
  have fa4 := free_blk xa 4
  have ca5 := cell_blk xa 5
  have fa5 := free_blk xa 5
  have ca6 := cell_blk xa 6
  have fa6 := free_blk xa 6
  have ca7 := cell_blk xa 7
  have fa7 := free_blk xa 7
  have la := blk_lt xa
  have cb0 := cell_blk xb 0
  have fb0 := free_blk xb 0
  have cb1 := cell_blk xb 1
  have fb1 := free_blk xb 1
  have cb2 := cell_blk xb 2
  have fb2 := free_blk xb 2
  have cb3 := cell_blk xb 3
  have fb3 := free_blk xb 3
  have cb4 := cell_blk xb 4
  have fb4 := free_blk xb 4
  have cb5 := cell_blk xb 5
  have fb5 := free_blk xb 5
  have cb6 := cell_blk xb 6
  have fb6 := free_blk xb 6
  have cb7 := cell_blk xb 7
  have fb7 := free_blk xb 7
  have lb := blk_lt xb
  have hn1 : (Value.slice av 0 cv).ownBlock ≠ some w.heap.size := fun e => by have := (ho.lt _ e).1; simp at this; omega
  have hn2 : (Value.slice av 0 cv).ownBlock ≠ some (w.heap.size + 1) := fun e => by have := (ho.lt _ e).1; simp at this; omega
  have HO := Lib.hid (World.ownsRow.mono (base' := w.heap.size) ho (by simp <;> omega))
  have HT := Lib.hid B01
  clear ho B01 hB1 xa xb
  go_wp2_with fail
  (try simp only [Exit.inBlock, Exit.then])
  refine bodyPost_ret (v := .tuple #[.agg #[.int .i64 C.r, .int .i64 C.d, .int .i64 C.b, .int .i64 C.l, .int .i64 C.m, .int .i64 C.n, .int .i64 C.e, (.slice av 0 cv)], .int .i64 14]) ?_ rfl ⟨⟨_, rfl, ?_⟩, ?_⟩
  · rw [results_cell_tmp rfl]
    go_simp
  · iterate 8 refine ownsRow_setCell_other ?_ hn2 _
    exact ownsRow_setCell_other HO.out hn1 _
  · iterate 9 refine Below.setCell ?_ (by simp <;> omega) _
    exact HT.out
set_option maxRecDepth 100000 in
set_option maxHeartbeats 2000000 in
theorem specLay_r (C : Cfg) (a : Option Addr) (n c : Nat) (s : ByteArray) (hs : s.size ≤ 1048576) (n0 d0 : Int) (c0 : Nat) (hz : Hid (rateV s.data.toList = (n0, d0, c0))) (w : World) :
    Calls Tryz.prog 39 #[.agg #[.int .i64 C.r, .int .i64 C.d, .int .i64 C.b, .int .i64 C.l, .int .i64 C.m, .int .i64 C.n, .int .i64 C.e, .slice a n c], .int .i64 5, .string s] w fun e w' => e = .returned (.tuple #[.agg #[.int .i64 C.r, .int .i64 C.d, .int .i64 C.b, .int .i64 C.l, .int .i64 C.m, .int .i64 n0, .int .i64 d0, .slice a n c], .int .i64 (c0 : Nat)]) ∧ Below w.heap.size w w' := by
  go_enter Tryz.func39, Tryz.ntmps39
  go_wp2_with fail
  refine (specRate s hs _).mono ?_
  rintro e w1 ⟨rfl, hB1⟩
  rw [rateE, hz.out]
  have xa := blk_next (blk_alloc (alloc_blk w #[.int .i64 C.r, .int .i64 C.d, .int .i64 C.b, .int .i64 C.l, .int .i64 C.m, .int .i64 C.n, .int .i64 C.e, .slice a n c] 26) (.cells #[.int .i64 0, .int .i64 0, .int .i64 0, .int .i64 0, .int .i64 0, .int .i64 0, .int .i64 0, .slice none 0 0] 26)) hB1
  have xb := blk_next (alloc_blk (w.alloc (.cells #[.int .i64 C.r, .int .i64 C.d, .int .i64 C.b, .int .i64 C.l, .int .i64 C.m, .int .i64 C.n, .int .i64 C.e, .slice a n c] 26)) #[.int .i64 0, .int .i64 0, .int .i64 0, .int .i64 0, .int .i64 0, .int .i64 0, .int .i64 0, .slice none 0 0] 26) hB1
  have B01 := bt (bt (below_al w (.cells #[.int .i64 C.r, .int .i64 C.d, .int .i64 C.b, .int .i64 C.l, .int .i64 C.m, .int .i64 C.n, .int .i64 C.e, .slice a n c] 26)) (below_al _ (.cells #[.int .i64 0, .int .i64 0, .int .i64 0, .int .i64 0, .int .i64 0, .int .i64 0, .int .i64 0, .slice none 0 0] 26))) hB1
  simp only [size_alloc] at xb
  have ca0 := cell_blk xa 0
  have fa0 := free_blk xa 0
  have ca1 := cell_blk xa 1
  have fa1 := free_blk xa 1
  have ca2 := cell_blk xa 2
  have fa2 := free_blk xa 2
  have ca3 := cell_blk xa 3
  have fa3 := free_blk xa 3
  have ca4 := cell_blk xa 4
  have fa4 := free_blk xa 4
  have ca5 := cell_blk xa 5
  have fa5 := free_blk xa 5
  have ca6 := cell_blk xa 6
  have fa6 := free_blk xa 6
  have ca7 := cell_blk xa 7
  have fa7 := free_blk xa 7
  have la := blk_lt xa
  have cb0 := cell_blk xb 0
  have fb0 := free_blk xb 0
  have cb1 := cell_blk xb 1
  have fb1 := free_blk xb 1
  have cb2 := cell_blk xb 2
  have fb2 := free_blk xb 2
  have cb3 := cell_blk xb 3
  have fb3 := free_blk xb 3
  have cb4 := cell_blk xb 4
  have fb4 := free_blk xb 4
  have cb5 := cell_blk xb 5
  have fb5 := free_blk xb 5
  have cb6 := cell_blk xb 6
  have fb6 := free_blk xb 6
  have cb7 := cell_blk xb 7
  have fb7 := free_blk xb 7
  have lb := blk_lt xb
  have HT := Lib.hid B01
  clear B01 hB1 xa xb
  go_wp2_with fail
  (try simp only [Exit.inBlock, Exit.then])
  refine bodyPost_ret (v := .tuple #[.agg #[.int .i64 C.r, .int .i64 C.d, .int .i64 C.b, .int .i64 C.l, .int .i64 C.m, .int .i64 n0, .int .i64 d0, .slice a n c], .int .i64 (c0 : Nat)]) ?_ rfl ⟨rfl, ?_⟩
  · rw [results_cell_tmp rfl]
    go_simp
  · iterate 10 refine Below.setCell ?_ (by simp <;> omega) _
    exact HT.out
set_option maxRecDepth 100000 in
set_option maxHeartbeats 2000000 in
theorem specLay_nn (C : Cfg) (a : Option Addr) (n c : Nat) (k : Nat) (hk : k < 5) (s : ByteArray) (hz : Hid (numV s.data.toList = none)) (w : World) :
    Calls Tryz.prog 39 #[.agg #[.int .i64 C.r, .int .i64 C.d, .int .i64 C.b, .int .i64 C.l, .int .i64 C.m, .int .i64 C.n, .int .i64 C.e, .slice a n c], .int .i64 k, .string s] w fun e w' => e = .returned (.tuple #[.agg #[.int .i64 C.r, .int .i64 C.d, .int .i64 C.b, .int .i64 C.l, .int .i64 C.m, .int .i64 C.n, .int .i64 C.e, .slice a n c], .int .i64 12]) ∧ Below w.heap.size w w' := by
  have HZ := Lib.hid (numE_none hz.out)
  have k6 : ((k : Int) == 6) = false := by rw [beq_eq_false_iff_ne]; omega
  have k5 : ((k : Int) == 5) = false := by rw [beq_eq_false_iff_ne]; omega
  go_enter Tryz.func39, Tryz.ntmps39
  go_wp2_with fail
  refine (specNumberE s _).mono ?_
  rintro e w1 ⟨rfl, hB1⟩
  rw [HZ.out]
  have xa := blk_next (blk_alloc (alloc_blk w #[.int .i64 C.r, .int .i64 C.d, .int .i64 C.b, .int .i64 C.l, .int .i64 C.m, .int .i64 C.n, .int .i64 C.e, .slice a n c] 26) (.cells #[.int .i64 0, .int .i64 0, .int .i64 0, .int .i64 0, .int .i64 0, .int .i64 0, .int .i64 0, .slice none 0 0] 26)) hB1
  have xb := blk_next (alloc_blk (w.alloc (.cells #[.int .i64 C.r, .int .i64 C.d, .int .i64 C.b, .int .i64 C.l, .int .i64 C.m, .int .i64 C.n, .int .i64 C.e, .slice a n c] 26)) #[.int .i64 0, .int .i64 0, .int .i64 0, .int .i64 0, .int .i64 0, .int .i64 0, .int .i64 0, .slice none 0 0] 26) hB1
  have B01 := bt (bt (below_al w (.cells #[.int .i64 C.r, .int .i64 C.d, .int .i64 C.b, .int .i64 C.l, .int .i64 C.m, .int .i64 C.n, .int .i64 C.e, .slice a n c] 26)) (below_al _ (.cells #[.int .i64 0, .int .i64 0, .int .i64 0, .int .i64 0, .int .i64 0, .int .i64 0, .int .i64 0, .slice none 0 0] 26))) hB1
  simp only [size_alloc] at xb
  have ca0 := cell_blk xa 0
  have fa0 := free_blk xa 0
  have ca1 := cell_blk xa 1
  have fa1 := free_blk xa 1
  have ca2 := cell_blk xa 2
  have fa2 := free_blk xa 2
  have ca3 := cell_blk xa 3
  have fa3 := free_blk xa 3
  have ca4 := cell_blk xa 4
  have fa4 := free_blk xa 4
  have ca5 := cell_blk xa 5
  have fa5 := free_blk xa 5
  have ca6 := cell_blk xa 6
  have fa6 := free_blk xa 6
  have ca7 := cell_blk xa 7
  have fa7 := free_blk xa 7
  have la := blk_lt xa
  have cb0 := cell_blk xb 0
  have fb0 := free_blk xb 0
  have cb1 := cell_blk xb 1
  have fb1 := free_blk xb 1
  have cb2 := cell_blk xb 2
  have fb2 := free_blk xb 2
  have cb3 := cell_blk xb 3
  have fb3 := free_blk xb 3
  have cb4 := cell_blk xb 4
  have fb4 := free_blk xb 4
  have cb5 := cell_blk xb 5
  have fb5 := free_blk xb 5
  have cb6 := cell_blk xb 6
  have fb6 := free_blk xb 6
  have cb7 := cell_blk xb 7
  have fb7 := free_blk xb 7
  have lb := blk_lt xb
  have HT := Lib.hid B01
  clear B01 hB1 xa xb
  go_wp2_with fail
  (try simp only [Exit.inBlock, Exit.then])
  refine bodyPost_ret (v := .tuple #[.agg #[.int .i64 C.r, .int .i64 C.d, .int .i64 C.b, .int .i64 C.l, .int .i64 C.m, .int .i64 C.n, .int .i64 C.e, .slice a n c], .int .i64 12]) ?_ rfl ⟨rfl, ?_⟩
  · rw [results_cell_tmp rfl]
    go_simp
  · iterate 8 refine Below.setCell ?_ (by simp <;> omega) _
    exact HT.out
set_option maxRecDepth 100000 in
set_option maxHeartbeats 2000000 in
theorem specLay_n0y (C : Cfg) (a : Option Addr) (n c : Nat) (s : ByteArray) (z : Int) (_z0 : 0 ≤ z) (_z1 : z ≤ 999999999) (hz : Hid (numV s.data.toList = some z)) (HI : Hid (inZ z 1 8 = true)) (w : World) :
    Calls Tryz.prog 39 #[.agg #[.int .i64 C.r, .int .i64 C.d, .int .i64 C.b, .int .i64 C.l, .int .i64 C.m, .int .i64 C.n, .int .i64 C.e, .slice a n c], .int .i64 0, .string s] w fun e w' => e = .returned (.tuple #[.agg #[.int .i64 z, .int .i64 C.d, .int .i64 C.b, .int .i64 C.l, .int .i64 C.m, .int .i64 C.n, .int .i64 C.e, .slice a n c], .int .i64 0]) ∧ Below w.heap.size w w' := by
  have HZ := Lib.hid (numE_some hz.out)
  go_enter Tryz.func39, Tryz.ntmps39
  go_wp2_with fail
  refine (specNumberE s _).mono ?_
  rintro e w1 ⟨rfl, hB1⟩
  rw [HZ.out]
  have xa := blk_next (blk_alloc (alloc_blk w #[.int .i64 C.r, .int .i64 C.d, .int .i64 C.b, .int .i64 C.l, .int .i64 C.m, .int .i64 C.n, .int .i64 C.e, .slice a n c] 26) (.cells #[.int .i64 0, .int .i64 0, .int .i64 0, .int .i64 0, .int .i64 0, .int .i64 0, .int .i64 0, .slice none 0 0] 26)) hB1
  have xb := blk_next (alloc_blk (w.alloc (.cells #[.int .i64 C.r, .int .i64 C.d, .int .i64 C.b, .int .i64 C.l, .int .i64 C.m, .int .i64 C.n, .int .i64 C.e, .slice a n c] 26)) #[.int .i64 0, .int .i64 0, .int .i64 0, .int .i64 0, .int .i64 0, .int .i64 0, .int .i64 0, .slice none 0 0] 26) hB1
  have B01 := bt (bt (below_al w (.cells #[.int .i64 C.r, .int .i64 C.d, .int .i64 C.b, .int .i64 C.l, .int .i64 C.m, .int .i64 C.n, .int .i64 C.e, .slice a n c] 26)) (below_al _ (.cells #[.int .i64 0, .int .i64 0, .int .i64 0, .int .i64 0, .int .i64 0, .int .i64 0, .int .i64 0, .slice none 0 0] 26))) hB1
  simp only [size_alloc] at xb
  have ca0 := cell_blk xa 0
  have fa0 := free_blk xa 0
  have ca1 := cell_blk xa 1
  have fa1 := free_blk xa 1
  have ca2 := cell_blk xa 2
  have fa2 := free_blk xa 2
  have ca3 := cell_blk xa 3
  have fa3 := free_blk xa 3
  have ca4 := cell_blk xa 4
  have fa4 := free_blk xa 4
  have ca5 := cell_blk xa 5
  have fa5 := free_blk xa 5
  have ca6 := cell_blk xa 6
  have fa6 := free_blk xa 6
  have ca7 := cell_blk xa 7
  have fa7 := free_blk xa 7
  have la := blk_lt xa
  have cb0 := cell_blk xb 0
  have fb0 := free_blk xb 0
  have cb1 := cell_blk xb 1
  have fb1 := free_blk xb 1
  have cb2 := cell_blk xb 2
  have fb2 := free_blk xb 2
  have cb3 := cell_blk xb 3
  have fb3 := free_blk xb 3
  have cb4 := cell_blk xb 4
  have fb4 := free_blk xb 4
  have cb5 := cell_blk xb 5
  have fb5 := free_blk xb 5
  have cb6 := cell_blk xb 6
  have fb6 := free_blk xb 6
  have cb7 := cell_blk xb 7
  have fb7 := free_blk xb 7
  have lb := blk_lt xb
  have HT : Hid (Below w.heap.size w (w1.setCell ⟨w.heap.size, 0, none⟩ (.int .i64 z))) := Lib.hid (Below.setCell B01 (by simp) _)
  have ya := heap_setCell_same w1 w.heap.size 0 _ _ (.int .i64 z) xa
  have yb := (heap_setCell_other w1 ⟨w.heap.size, 0, none⟩ (w.heap.size + 1) (.int .i64 z) (by simp)).trans xb
  simp only [List.setIfInBounds_toArray, List.set_cons_zero] at ya
  have HYA := Lib.hid ya
  have HYB := Lib.hid yb
  clear B01 hB1 xa xb ya yb
  go_wp2_with fail
  clear ca0 ca1 ca2 ca3 ca4 ca5 ca6 ca7 fa0 fa1 fa2 fa3 fa4 fa5 fa6 fa7 la
  clear cb0 cb1 cb2 cb3 cb4 cb5 cb6 cb7 fb0 fb1 fb2 fb3 fb4 fb5 fb6 fb7 lb
  generalize w1.setCell ⟨w.heap.size, 0, none⟩ (.int .i64 z) = wq at HT HYA HYB ⊢
  have hS0 : (fun w' => Below wq.heap.size wq w') wq.drew := (Below.refl _ _).drew
  refine wp_region_noPanic ?_
  refine wp_region_held_drew (S := (fun w' => Below wq.heap.size wq w')) (by kernel_rfl) hS0 (fun hHeld => ?_)
  clear hS0
  refine wpAnyH_take (i := 0) (oi := ?o1) (v := ?v1) ?hi1 ?hs1 ?hf1 ?hr1 ?hQ1 ?hy1 ?hS1 ?rest1
  case hi1 => rfl
  case hs1 => kernel_rfl
  case hf1 => kernel_rfl
  case hr1 => kernel_rfl
  case hQ1 => exact fun _ _ _ h => h
  case hS1 => assumption
  case hy1 =>
    refine Or.inl ⟨by kernel_rfl, ?_⟩
    intro w' hSw
    (try dsimp only at hSw)
    go_simp
    (try rfl)
  (try simp only [List.getElem_toArray, List.getElem_cons_zero, Act.put, List.setIfInBounds_toArray, List.set_cons_zero, List.set_cons_succ])
  refine wpAnyH_take (i := 2) (oi := ?o2) (v := ?v2) ?hi2 ?hs2 ?hf2 ?hr2 ?hQ2 ?hy2 ?hS2 ?rest2
  case hi2 => rfl
  case hs2 => kernel_rfl
  case hf2 => kernel_rfl
  case hr2 => kernel_rfl
  case hQ2 => exact fun _ _ _ h => h
  case hS2 => assumption
  case hy2 =>
    refine Or.inl ⟨by kernel_rfl, ?_⟩
    intro w' hSw
    (try dsimp only at hSw)
    go_simp
    (try rfl)
  (try simp only [List.getElem_toArray, List.getElem_cons_succ, List.getElem_cons_zero, Act.put, List.setIfInBounds_toArray, List.set_cons_zero, List.set_cons_succ])
  refine wpAnyH_take (i := 6) (oi := ?o3) (v := ?v3) ?hi3 ?hs3 ?hf3 ?hr3 ?hQ3 ?hy3 ?hS3 ?rest3
  case hi3 => rfl
  case hs3 => kernel_rfl
  case hf3 => kernel_rfl
  case hr3 => kernel_rfl
  case hQ3 => exact fun _ _ _ h => h
  case hS3 => assumption
  case hy3 =>
    refine Or.inl ⟨by kernel_rfl, ?_⟩
    intro w' hSw
    (try dsimp only at hSw)
    go_simp
    (try rfl)
  (try simp only [List.getElem_toArray, List.getElem_cons_succ, List.getElem_cons_zero, Act.put, List.setIfInBounds_toArray, List.set_cons_zero, List.set_cons_succ])
  refine wpAnyH_ready (rs := [1]) (by kernel_rfl) (by simp) ?_
  refine AllReadyH.cons rfl (fun K hK => ?_) AllReadyH.nil
  go_simp
  refine (specLeastB _ 0 _ rfl).mono ?_
  rintro e w5 ⟨⟨rfl, hc5⟩, hB5⟩
  refine hK.out _ _ ?_ (fun hHeld => ?_)
  · exact bt hHeld hB5
  clear hK K
  (try simp only [List.getElem_toArray, List.getElem_cons_succ, List.getElem_cons_zero, Act.put, List.setIfInBounds_toArray, List.set_cons_zero, List.set_cons_succ])
  refine wpAnyH_weaken (S' := fun w' => Below wq.heap.size wq w' ∧ w'.cell? ⟨wq.heap.size, 0, none⟩ = some (.int .i64 1)) (fun _ h => h.1) _ _ _ _ ?_
  have hH1 : (fun w' => Below wq.heap.size wq w' ∧ w'.cell? ⟨wq.heap.size, 0, none⟩ = some (.int .i64 1)) w5 := ⟨hHeld, hc5⟩
  clear hHeld
  refine wpAnyH_take (i := 3) (oi := ?o4) (v := ?v4) ?hi4 ?hs4 ?hf4 ?hr4 ?hQ4 ?hy4 ?hS4 ?rest4
  case hi4 => rfl
  case hs4 => kernel_rfl
  case hf4 => kernel_rfl
  case hr4 => kernel_rfl
  case hQ4 => exact fun _ _ _ h => h
  case hS4 => assumption
  case hy4 =>
    refine Or.inl ⟨by kernel_rfl, ?_⟩
    intro w' hSw
    (try dsimp only at hSw)
    go_simp
    (try rfl)
  (try simp only [List.getElem_toArray, List.getElem_cons_succ, List.getElem_cons_zero, Act.put, List.setIfInBounds_toArray, List.set_cons_zero, List.set_cons_succ])
  refine wpAnyH_take (i := 4) (oi := ?o5) (v := ?v5) ?hi5 ?hs5 ?hf5 ?hr5 ?hQ5 ?hy5 ?hS5 ?rest5
  case hi5 => rfl
  case hs5 => kernel_rfl
  case hf5 => kernel_rfl
  case hr5 => kernel_rfl
  case hQ5 => exact fun _ _ _ h => h
  case hS5 => assumption
  case hy5 =>
    refine Or.inl ⟨by kernel_rfl, ?_⟩
    intro w' hSw
    (try dsimp only at hSw)
    go_simp
    (try rfl)
  (try simp only [List.getElem_toArray, List.getElem_cons_succ, List.getElem_cons_zero, Act.put, List.setIfInBounds_toArray, List.set_cons_zero, List.set_cons_succ])
  refine wpAnyH_ready (rs := [5]) (by kernel_rfl) (by simp) ?_
  refine AllReadyH.cons rfl (fun K hK => ?_) AllReadyH.nil
  go_simp
  refine (specMostB _ 0 _ rfl).mono ?_
  rintro e w6 ⟨⟨rfl, hc6⟩, hB6⟩
  refine hK.out _ _ ?_ (fun hHeld => ?_)
  · exact ⟨bt hH1.1 hB6, cell_keepX hc5 hB6⟩
  clear hK K
  (try simp only [List.getElem_toArray, List.getElem_cons_succ, List.getElem_cons_zero, Act.put, List.setIfInBounds_toArray, List.set_cons_zero, List.set_cons_succ])
  refine wpAnyH_weaken (S' := fun w' => (Below wq.heap.size wq w' ∧ w'.cell? ⟨wq.heap.size, 0, none⟩ = some (.int .i64 1)) ∧ w'.cell? ⟨w5.heap.size, 0, none⟩ = some (.int .i64 8)) (fun _ h => h.1) _ _ _ _ ?_
  have hH2 : (fun w' => (Below wq.heap.size wq w' ∧ w'.cell? ⟨wq.heap.size, 0, none⟩ = some (.int .i64 1)) ∧ w'.cell? ⟨w5.heap.size, 0, none⟩ = some (.int .i64 8)) w6 := ⟨hHeld, hc6⟩
  clear hHeld hH1
  refine wpAnyH_take (i := 7) (oi := ?o6) (v := ?v6) ?hi6 ?hs6 ?hf6 ?hr6 ?hQ6 ?hy6 ?hS6 ?rest6
  case hi6 => rfl
  case hs6 => kernel_rfl
  case hf6 => kernel_rfl
  case hr6 => kernel_rfl
  case hQ6 => exact fun _ _ _ h => h
  case hS6 => assumption
  case hy6 =>
    refine Or.inl ⟨by kernel_rfl, ?_⟩
    intro w' hSw
    (try dsimp only at hSw)
    go_simp
    (try rfl)
  (try simp only [List.getElem_toArray, List.getElem_cons_succ, List.getElem_cons_zero, Act.put, List.setIfInBounds_toArray, List.set_cons_zero, List.set_cons_succ])
  refine wpAnyH_take (i := 8) (oi := ?o7) (v := ?v7) ?hi7 ?hs7 ?hf7 ?hr7 ?hQ7 ?hy7 ?hS7 ?rest7
  case hi7 => rfl
  case hs7 => kernel_rfl
  case hf7 => kernel_rfl
  case hr7 => kernel_rfl
  case hQ7 => exact fun _ _ _ h => h
  case hS7 => assumption
  case hy7 =>
    refine Or.inl ⟨by kernel_rfl, ?_⟩
    intro w' hSw
    (try dsimp only at hSw)
    go_simp
    (try rfl)
  (try simp only [List.getElem_toArray, List.getElem_cons_succ, List.getElem_cons_zero, Act.put, List.setIfInBounds_toArray, List.set_cons_zero, List.set_cons_succ])
  refine wpAnyH_ready (rs := [9]) (by kernel_rfl) (by simp) ?_
  refine AllReadyH.cons rfl (fun K hK => ?_) AllReadyH.nil
  go_simp
  refine (specIn8 _ _ _ _).mono ?_
  rintro e w7 ⟨rfl, rfl⟩
  rw [HI.out]
  refine hK.out _ _ ?_ (fun hHeld => ?_)
  · exact hH2
  clear hK K
  (try simp only [List.getElem_toArray, List.getElem_cons_succ, List.getElem_cons_zero, Act.put, List.setIfInBounds_toArray, List.set_cons_zero, List.set_cons_succ])
  refine wpAnyH_take (i := 10) (oi := ?o8) (v := ?v8) ?hi8 ?hs8 ?hf8 ?hr8 ?hQ8 ?hy8 ?hS8 ?rest8
  case hi8 => rfl
  case hs8 => kernel_rfl
  case hf8 => kernel_rfl
  case hr8 => kernel_rfl
  case hQ8 => exact fun _ _ _ h => h
  case hS8 => assumption
  case hy8 =>
    refine Or.inl ⟨by kernel_rfl, ?_⟩
    intro w' hSw
    (try dsimp only at hSw)
    go_simp
    (try rfl)
  (try simp only [List.getElem_toArray, List.getElem_cons_succ, List.getElem_cons_zero, Act.put, List.setIfInBounds_toArray, List.set_cons_zero, List.set_cons_succ])
  refine wpAnyH_done (by kernel_rfl) ?_ _
  refine NoPanic.normal ?_
  have hH2 := hHeld.1.1
  have xa := blk_next HYA.out hH2
  have xb := blk_next HYB.out hH2
  have ca0 := cell_blk xa 0
  have fa0 := free_blk xa 0
  have ca1 := cell_blk xa 1
  have fa1 := free_blk xa 1
  have ca2 := cell_blk xa 2
  have fa2 := free_blk xa 2
  have ca3 := cell_blk xa 3
  have fa3 := free_blk xa 3
  have ca4 := cell_blk xa 4
  have fa4 := free_blk xa 4
  have ca5 := cell_blk xa 5
  have fa5 := free_blk xa 5
  have ca6 := cell_blk xa 6
  have fa6 := free_blk xa 6
  have ca7 := cell_blk xa 7
  have fa7 := free_blk xa 7
  have la := blk_lt xa
  have cb0 := cell_blk xb 0
  have fb0 := free_blk xb 0
  have cb1 := cell_blk xb 1
  have fb1 := free_blk xb 1
  have cb2 := cell_blk xb 2
  have fb2 := free_blk xb 2
  have cb3 := cell_blk xb 3
  have fb3 := free_blk xb 3
  have cb4 := cell_blk xb 4
  have fb4 := free_blk xb 4
  have cb5 := cell_blk xb 5
  have fb5 := free_blk xb 5
  have cb6 := cell_blk xb 6
  have fb6 := free_blk xb 6
  have cb7 := cell_blk xb 7
  have fb7 := free_blk xb 7
  have lb := blk_lt xb
  replace HT := Lib.hid (bt HT.out hH2)
  clear xa xb hHeld
  go_wp2_with fail
  (try simp only [Exit.inBlock, Exit.then])
  refine bodyPost_ret (v := .tuple #[.agg #[.int .i64 z, .int .i64 C.d, .int .i64 C.b, .int .i64 C.l, .int .i64 C.m, .int .i64 C.n, .int .i64 C.e, .slice a n c], .int .i64 0]) ?_ rfl ⟨rfl, ?_⟩
  · rw [results_cell_tmp rfl]
    go_simp
  · iterate 8 refine Below.setCell ?_ (by simp <;> omega) _
    exact HT.out
set_option maxRecDepth 100000 in
set_option maxHeartbeats 2000000 in
theorem specLay_n0n (C : Cfg) (a : Option Addr) (n c : Nat) (s : ByteArray) (z : Int) (_z0 : 0 ≤ z) (_z1 : z ≤ 999999999) (hz : Hid (numV s.data.toList = some z)) (HI : Hid (inZ z 1 8 = false)) (w : World) :
    Calls Tryz.prog 39 #[.agg #[.int .i64 C.r, .int .i64 C.d, .int .i64 C.b, .int .i64 C.l, .int .i64 C.m, .int .i64 C.n, .int .i64 C.e, .slice a n c], .int .i64 0, .string s] w fun e w' => e = .returned (.tuple #[.agg #[.int .i64 z, .int .i64 C.d, .int .i64 C.b, .int .i64 C.l, .int .i64 C.m, .int .i64 C.n, .int .i64 C.e, .slice a n c], .int .i64 13]) ∧ Below w.heap.size w w' := by
  have HZ := Lib.hid (numE_some hz.out)
  go_enter Tryz.func39, Tryz.ntmps39
  go_wp2_with fail
  refine (specNumberE s _).mono ?_
  rintro e w1 ⟨rfl, hB1⟩
  rw [HZ.out]
  have xa := blk_next (blk_alloc (alloc_blk w #[.int .i64 C.r, .int .i64 C.d, .int .i64 C.b, .int .i64 C.l, .int .i64 C.m, .int .i64 C.n, .int .i64 C.e, .slice a n c] 26) (.cells #[.int .i64 0, .int .i64 0, .int .i64 0, .int .i64 0, .int .i64 0, .int .i64 0, .int .i64 0, .slice none 0 0] 26)) hB1
  have xb := blk_next (alloc_blk (w.alloc (.cells #[.int .i64 C.r, .int .i64 C.d, .int .i64 C.b, .int .i64 C.l, .int .i64 C.m, .int .i64 C.n, .int .i64 C.e, .slice a n c] 26)) #[.int .i64 0, .int .i64 0, .int .i64 0, .int .i64 0, .int .i64 0, .int .i64 0, .int .i64 0, .slice none 0 0] 26) hB1
  have B01 := bt (bt (below_al w (.cells #[.int .i64 C.r, .int .i64 C.d, .int .i64 C.b, .int .i64 C.l, .int .i64 C.m, .int .i64 C.n, .int .i64 C.e, .slice a n c] 26)) (below_al _ (.cells #[.int .i64 0, .int .i64 0, .int .i64 0, .int .i64 0, .int .i64 0, .int .i64 0, .int .i64 0, .slice none 0 0] 26))) hB1
  simp only [size_alloc] at xb
  have ca0 := cell_blk xa 0
  have fa0 := free_blk xa 0
  have ca1 := cell_blk xa 1
  have fa1 := free_blk xa 1
  have ca2 := cell_blk xa 2
  have fa2 := free_blk xa 2
  have ca3 := cell_blk xa 3
  have fa3 := free_blk xa 3
  have ca4 := cell_blk xa 4
  have fa4 := free_blk xa 4
  have ca5 := cell_blk xa 5
  have fa5 := free_blk xa 5
  have ca6 := cell_blk xa 6
  have fa6 := free_blk xa 6
  have ca7 := cell_blk xa 7
  have fa7 := free_blk xa 7
  have la := blk_lt xa
  have cb0 := cell_blk xb 0
  have fb0 := free_blk xb 0
  have cb1 := cell_blk xb 1
  have fb1 := free_blk xb 1
  have cb2 := cell_blk xb 2
  have fb2 := free_blk xb 2
  have cb3 := cell_blk xb 3
  have fb3 := free_blk xb 3
  have cb4 := cell_blk xb 4
  have fb4 := free_blk xb 4
  have cb5 := cell_blk xb 5
  have fb5 := free_blk xb 5
  have cb6 := cell_blk xb 6
  have fb6 := free_blk xb 6
  have cb7 := cell_blk xb 7
  have fb7 := free_blk xb 7
  have lb := blk_lt xb
  have HT : Hid (Below w.heap.size w (w1.setCell ⟨w.heap.size, 0, none⟩ (.int .i64 z))) := Lib.hid (Below.setCell B01 (by simp) _)
  have ya := heap_setCell_same w1 w.heap.size 0 _ _ (.int .i64 z) xa
  have yb := (heap_setCell_other w1 ⟨w.heap.size, 0, none⟩ (w.heap.size + 1) (.int .i64 z) (by simp)).trans xb
  simp only [List.setIfInBounds_toArray, List.set_cons_zero] at ya
  have HYA := Lib.hid ya
  have HYB := Lib.hid yb
  clear B01 hB1 xa xb ya yb
  go_wp2_with fail
  clear ca0 ca1 ca2 ca3 ca4 ca5 ca6 ca7 fa0 fa1 fa2 fa3 fa4 fa5 fa6 fa7 la
  clear cb0 cb1 cb2 cb3 cb4 cb5 cb6 cb7 fb0 fb1 fb2 fb3 fb4 fb5 fb6 fb7 lb
  generalize w1.setCell ⟨w.heap.size, 0, none⟩ (.int .i64 z) = wq at HT HYA HYB ⊢
  have hS0 : (fun w' => Below wq.heap.size wq w') wq.drew := (Below.refl _ _).drew
  refine wp_region_noPanic ?_
  refine wp_region_held_drew (S := (fun w' => Below wq.heap.size wq w')) (by kernel_rfl) hS0 (fun hHeld => ?_)
  clear hS0
  refine wpAnyH_take (i := 0) (oi := ?o9) (v := ?v9) ?hi9 ?hs9 ?hf9 ?hr9 ?hQ9 ?hy9 ?hS9 ?rest9
  case hi9 => rfl
  case hs9 => kernel_rfl
  case hf9 => kernel_rfl
  case hr9 => kernel_rfl
  case hQ9 => exact fun _ _ _ h => h
  case hS9 => assumption
  case hy9 =>
    refine Or.inl ⟨by kernel_rfl, ?_⟩
    intro w' hSw
    (try dsimp only at hSw)
    go_simp
    (try rfl)
  (try simp only [List.getElem_toArray, List.getElem_cons_zero, Act.put, List.setIfInBounds_toArray, List.set_cons_zero, List.set_cons_succ])
  refine wpAnyH_take (i := 2) (oi := ?o10) (v := ?v10) ?hi10 ?hs10 ?hf10 ?hr10 ?hQ10 ?hy10 ?hS10 ?rest10
  case hi10 => rfl
  case hs10 => kernel_rfl
  case hf10 => kernel_rfl
  case hr10 => kernel_rfl
  case hQ10 => exact fun _ _ _ h => h
  case hS10 => assumption
  case hy10 =>
    refine Or.inl ⟨by kernel_rfl, ?_⟩
    intro w' hSw
    (try dsimp only at hSw)
    go_simp
    (try rfl)
  (try simp only [List.getElem_toArray, List.getElem_cons_succ, List.getElem_cons_zero, Act.put, List.setIfInBounds_toArray, List.set_cons_zero, List.set_cons_succ])
  refine wpAnyH_take (i := 6) (oi := ?o11) (v := ?v11) ?hi11 ?hs11 ?hf11 ?hr11 ?hQ11 ?hy11 ?hS11 ?rest11
  case hi11 => rfl
  case hs11 => kernel_rfl
  case hf11 => kernel_rfl
  case hr11 => kernel_rfl
  case hQ11 => exact fun _ _ _ h => h
  case hS11 => assumption
  case hy11 =>
    refine Or.inl ⟨by kernel_rfl, ?_⟩
    intro w' hSw
    (try dsimp only at hSw)
    go_simp
    (try rfl)
  (try simp only [List.getElem_toArray, List.getElem_cons_succ, List.getElem_cons_zero, Act.put, List.setIfInBounds_toArray, List.set_cons_zero, List.set_cons_succ])
  refine wpAnyH_ready (rs := [1]) (by kernel_rfl) (by simp) ?_
  refine AllReadyH.cons rfl (fun K hK => ?_) AllReadyH.nil
  go_simp
  refine (specLeastB _ 0 _ rfl).mono ?_
  rintro e w5 ⟨⟨rfl, hc5⟩, hB5⟩
  refine hK.out _ _ ?_ (fun hHeld => ?_)
  · exact bt hHeld hB5
  clear hK K
  (try simp only [List.getElem_toArray, List.getElem_cons_succ, List.getElem_cons_zero, Act.put, List.setIfInBounds_toArray, List.set_cons_zero, List.set_cons_succ])
  refine wpAnyH_weaken (S' := fun w' => Below wq.heap.size wq w' ∧ w'.cell? ⟨wq.heap.size, 0, none⟩ = some (.int .i64 1)) (fun _ h => h.1) _ _ _ _ ?_
  have hH1 : (fun w' => Below wq.heap.size wq w' ∧ w'.cell? ⟨wq.heap.size, 0, none⟩ = some (.int .i64 1)) w5 := ⟨hHeld, hc5⟩
  clear hHeld
  refine wpAnyH_take (i := 3) (oi := ?o12) (v := ?v12) ?hi12 ?hs12 ?hf12 ?hr12 ?hQ12 ?hy12 ?hS12 ?rest12
  case hi12 => rfl
  case hs12 => kernel_rfl
  case hf12 => kernel_rfl
  case hr12 => kernel_rfl
  case hQ12 => exact fun _ _ _ h => h
  case hS12 => assumption
  case hy12 =>
    refine Or.inl ⟨by kernel_rfl, ?_⟩
    intro w' hSw
    (try dsimp only at hSw)
    go_simp
    (try rfl)
  (try simp only [List.getElem_toArray, List.getElem_cons_succ, List.getElem_cons_zero, Act.put, List.setIfInBounds_toArray, List.set_cons_zero, List.set_cons_succ])
  refine wpAnyH_take (i := 4) (oi := ?o13) (v := ?v13) ?hi13 ?hs13 ?hf13 ?hr13 ?hQ13 ?hy13 ?hS13 ?rest13
  case hi13 => rfl
  case hs13 => kernel_rfl
  case hf13 => kernel_rfl
  case hr13 => kernel_rfl
  case hQ13 => exact fun _ _ _ h => h
  case hS13 => assumption
  case hy13 =>
    refine Or.inl ⟨by kernel_rfl, ?_⟩
    intro w' hSw
    (try dsimp only at hSw)
    go_simp
    (try rfl)
  (try simp only [List.getElem_toArray, List.getElem_cons_succ, List.getElem_cons_zero, Act.put, List.setIfInBounds_toArray, List.set_cons_zero, List.set_cons_succ])
  refine wpAnyH_ready (rs := [5]) (by kernel_rfl) (by simp) ?_
  refine AllReadyH.cons rfl (fun K hK => ?_) AllReadyH.nil
  go_simp
  refine (specMostB _ 0 _ rfl).mono ?_
  rintro e w6 ⟨⟨rfl, hc6⟩, hB6⟩
  refine hK.out _ _ ?_ (fun hHeld => ?_)
  · exact ⟨bt hH1.1 hB6, cell_keepX hc5 hB6⟩
  clear hK K
  (try simp only [List.getElem_toArray, List.getElem_cons_succ, List.getElem_cons_zero, Act.put, List.setIfInBounds_toArray, List.set_cons_zero, List.set_cons_succ])
  refine wpAnyH_weaken (S' := fun w' => (Below wq.heap.size wq w' ∧ w'.cell? ⟨wq.heap.size, 0, none⟩ = some (.int .i64 1)) ∧ w'.cell? ⟨w5.heap.size, 0, none⟩ = some (.int .i64 8)) (fun _ h => h.1) _ _ _ _ ?_
  have hH2 : (fun w' => (Below wq.heap.size wq w' ∧ w'.cell? ⟨wq.heap.size, 0, none⟩ = some (.int .i64 1)) ∧ w'.cell? ⟨w5.heap.size, 0, none⟩ = some (.int .i64 8)) w6 := ⟨hHeld, hc6⟩
  clear hHeld hH1
  refine wpAnyH_take (i := 7) (oi := ?o14) (v := ?v14) ?hi14 ?hs14 ?hf14 ?hr14 ?hQ14 ?hy14 ?hS14 ?rest14
  case hi14 => rfl
  case hs14 => kernel_rfl
  case hf14 => kernel_rfl
  case hr14 => kernel_rfl
  case hQ14 => exact fun _ _ _ h => h
  case hS14 => assumption
  case hy14 =>
    refine Or.inl ⟨by kernel_rfl, ?_⟩
    intro w' hSw
    (try dsimp only at hSw)
    go_simp
    (try rfl)
  (try simp only [List.getElem_toArray, List.getElem_cons_succ, List.getElem_cons_zero, Act.put, List.setIfInBounds_toArray, List.set_cons_zero, List.set_cons_succ])
  refine wpAnyH_take (i := 8) (oi := ?o15) (v := ?v15) ?hi15 ?hs15 ?hf15 ?hr15 ?hQ15 ?hy15 ?hS15 ?rest15
  case hi15 => rfl
  case hs15 => kernel_rfl
  case hf15 => kernel_rfl
  case hr15 => kernel_rfl
  case hQ15 => exact fun _ _ _ h => h
  case hS15 => assumption
  case hy15 =>
    refine Or.inl ⟨by kernel_rfl, ?_⟩
    intro w' hSw
    (try dsimp only at hSw)
    go_simp
    (try rfl)
  (try simp only [List.getElem_toArray, List.getElem_cons_succ, List.getElem_cons_zero, Act.put, List.setIfInBounds_toArray, List.set_cons_zero, List.set_cons_succ])
  refine wpAnyH_ready (rs := [9]) (by kernel_rfl) (by simp) ?_
  refine AllReadyH.cons rfl (fun K hK => ?_) AllReadyH.nil
  go_simp
  refine (specIn8 _ _ _ _).mono ?_
  rintro e w7 ⟨rfl, rfl⟩
  rw [HI.out]
  refine hK.out _ _ ?_ (fun hHeld => ?_)
  · exact hH2
  clear hK K
  (try simp only [List.getElem_toArray, List.getElem_cons_succ, List.getElem_cons_zero, Act.put, List.setIfInBounds_toArray, List.set_cons_zero, List.set_cons_succ])
  refine wpAnyH_take (i := 10) (oi := ?o16) (v := ?v16) ?hi16 ?hs16 ?hf16 ?hr16 ?hQ16 ?hy16 ?hS16 ?rest16
  case hi16 => rfl
  case hs16 => kernel_rfl
  case hf16 => kernel_rfl
  case hr16 => kernel_rfl
  case hQ16 => exact fun _ _ _ h => h
  case hS16 => assumption
  case hy16 =>
    refine Or.inl ⟨by kernel_rfl, ?_⟩
    intro w' hSw
    (try dsimp only at hSw)
    go_simp
    (try rfl)
  (try simp only [List.getElem_toArray, List.getElem_cons_succ, List.getElem_cons_zero, Act.put, List.setIfInBounds_toArray, List.set_cons_zero, List.set_cons_succ])
  refine wpAnyH_done (by kernel_rfl) ?_ _
  refine NoPanic.normal ?_
  have hH2 := hHeld.1.1
  have xa := blk_next HYA.out hH2
  have xb := blk_next HYB.out hH2
  have ca0 := cell_blk xa 0
  have fa0 := free_blk xa 0
  have ca1 := cell_blk xa 1
  have fa1 := free_blk xa 1
  have ca2 := cell_blk xa 2
  have fa2 := free_blk xa 2
  have ca3 := cell_blk xa 3
  have fa3 := free_blk xa 3
  have ca4 := cell_blk xa 4
  have fa4 := free_blk xa 4
  have ca5 := cell_blk xa 5
  have fa5 := free_blk xa 5
  have ca6 := cell_blk xa 6
  have fa6 := free_blk xa 6
  have ca7 := cell_blk xa 7
  have fa7 := free_blk xa 7
  have la := blk_lt xa
  have cb0 := cell_blk xb 0
  have fb0 := free_blk xb 0
  have cb1 := cell_blk xb 1
  have fb1 := free_blk xb 1
  have cb2 := cell_blk xb 2
  have fb2 := free_blk xb 2
  have cb3 := cell_blk xb 3
  have fb3 := free_blk xb 3
  have cb4 := cell_blk xb 4
  have fb4 := free_blk xb 4
  have cb5 := cell_blk xb 5
  have fb5 := free_blk xb 5
  have cb6 := cell_blk xb 6
  have fb6 := free_blk xb 6
  have cb7 := cell_blk xb 7
  have fb7 := free_blk xb 7
  have lb := blk_lt xb
  replace HT := Lib.hid (bt HT.out hH2)
  clear xa xb hHeld
  go_wp2_with fail
  (try simp only [Exit.inBlock, Exit.then])
  refine bodyPost_ret (v := .tuple #[.agg #[.int .i64 z, .int .i64 C.d, .int .i64 C.b, .int .i64 C.l, .int .i64 C.m, .int .i64 C.n, .int .i64 C.e, .slice a n c], .int .i64 13]) ?_ rfl ⟨rfl, ?_⟩
  · rw [results_cell_tmp rfl]
    go_simp
  · iterate 8 refine Below.setCell ?_ (by simp <;> omega) _
    exact HT.out
set_option maxRecDepth 100000 in
set_option maxHeartbeats 2000000 in
theorem specLay_n1y (C : Cfg) (a : Option Addr) (n c : Nat) (s : ByteArray) (z : Int) (_z0 : 0 ≤ z) (_z1 : z ≤ 999999999) (hz : Hid (numV s.data.toList = some z)) (HI : Hid (inZ z 0 4 = true)) (w : World) :
    Calls Tryz.prog 39 #[.agg #[.int .i64 C.r, .int .i64 C.d, .int .i64 C.b, .int .i64 C.l, .int .i64 C.m, .int .i64 C.n, .int .i64 C.e, .slice a n c], .int .i64 1, .string s] w fun e w' => e = .returned (.tuple #[.agg #[.int .i64 C.r, .int .i64 z, .int .i64 C.b, .int .i64 C.l, .int .i64 C.m, .int .i64 C.n, .int .i64 C.e, .slice a n c], .int .i64 0]) ∧ Below w.heap.size w w' := by
  have HZ := Lib.hid (numE_some hz.out)
  go_enter Tryz.func39, Tryz.ntmps39
  go_wp2_with fail
  refine (specNumberE s _).mono ?_
  rintro e w1 ⟨rfl, hB1⟩
  rw [HZ.out]
  have xa := blk_next (blk_alloc (alloc_blk w #[.int .i64 C.r, .int .i64 C.d, .int .i64 C.b, .int .i64 C.l, .int .i64 C.m, .int .i64 C.n, .int .i64 C.e, .slice a n c] 26) (.cells #[.int .i64 0, .int .i64 0, .int .i64 0, .int .i64 0, .int .i64 0, .int .i64 0, .int .i64 0, .slice none 0 0] 26)) hB1
  have xb := blk_next (alloc_blk (w.alloc (.cells #[.int .i64 C.r, .int .i64 C.d, .int .i64 C.b, .int .i64 C.l, .int .i64 C.m, .int .i64 C.n, .int .i64 C.e, .slice a n c] 26)) #[.int .i64 0, .int .i64 0, .int .i64 0, .int .i64 0, .int .i64 0, .int .i64 0, .int .i64 0, .slice none 0 0] 26) hB1
  have B01 := bt (bt (below_al w (.cells #[.int .i64 C.r, .int .i64 C.d, .int .i64 C.b, .int .i64 C.l, .int .i64 C.m, .int .i64 C.n, .int .i64 C.e, .slice a n c] 26)) (below_al _ (.cells #[.int .i64 0, .int .i64 0, .int .i64 0, .int .i64 0, .int .i64 0, .int .i64 0, .int .i64 0, .slice none 0 0] 26))) hB1
  simp only [size_alloc] at xb
  have ca0 := cell_blk xa 0
  have fa0 := free_blk xa 0
  have ca1 := cell_blk xa 1
  have fa1 := free_blk xa 1
  have ca2 := cell_blk xa 2
  have fa2 := free_blk xa 2
  have ca3 := cell_blk xa 3
  have fa3 := free_blk xa 3
  have ca4 := cell_blk xa 4
  have fa4 := free_blk xa 4
  have ca5 := cell_blk xa 5
  have fa5 := free_blk xa 5
  have ca6 := cell_blk xa 6
  have fa6 := free_blk xa 6
  have ca7 := cell_blk xa 7
  have fa7 := free_blk xa 7
  have la := blk_lt xa
  have cb0 := cell_blk xb 0
  have fb0 := free_blk xb 0
  have cb1 := cell_blk xb 1
  have fb1 := free_blk xb 1
  have cb2 := cell_blk xb 2
  have fb2 := free_blk xb 2
  have cb3 := cell_blk xb 3
  have fb3 := free_blk xb 3
  have cb4 := cell_blk xb 4
  have fb4 := free_blk xb 4
  have cb5 := cell_blk xb 5
  have fb5 := free_blk xb 5
  have cb6 := cell_blk xb 6
  have fb6 := free_blk xb 6
  have cb7 := cell_blk xb 7
  have fb7 := free_blk xb 7
  have lb := blk_lt xb
  have HT : Hid (Below w.heap.size w (w1.setCell ⟨w.heap.size, 1, none⟩ (.int .i64 z))) := Lib.hid (Below.setCell B01 (by simp) _)
  have ya := heap_setCell_same w1 w.heap.size 1 _ _ (.int .i64 z) xa
  have yb := (heap_setCell_other w1 ⟨w.heap.size, 1, none⟩ (w.heap.size + 1) (.int .i64 z) (by simp)).trans xb
  simp only [List.setIfInBounds_toArray, List.set_cons_zero, List.set_cons_succ] at ya
  have HYA := Lib.hid ya
  have HYB := Lib.hid yb
  clear B01 hB1 xa xb ya yb
  go_wp2_with fail
  clear ca0 ca1 ca2 ca3 ca4 ca5 ca6 ca7 fa0 fa1 fa2 fa3 fa4 fa5 fa6 fa7 la
  clear cb0 cb1 cb2 cb3 cb4 cb5 cb6 cb7 fb0 fb1 fb2 fb3 fb4 fb5 fb6 fb7 lb
  generalize w1.setCell ⟨w.heap.size, 1, none⟩ (.int .i64 z) = wq at HT HYA HYB ⊢
  have hS0 : (fun w' => Below wq.heap.size wq w') wq.drew := (Below.refl _ _).drew
  refine wp_region_noPanic ?_
  refine wp_region_held_drew (S := (fun w' => Below wq.heap.size wq w')) (by kernel_rfl) hS0 (fun hHeld => ?_)
  clear hS0
  refine wpAnyH_take (i := 0) (oi := ?o17) (v := ?v17) ?hi17 ?hs17 ?hf17 ?hr17 ?hQ17 ?hy17 ?hS17 ?rest17
  case hi17 => rfl
  case hs17 => kernel_rfl
  case hf17 => kernel_rfl
  case hr17 => kernel_rfl
  case hQ17 => exact fun _ _ _ h => h
  case hS17 => assumption
  case hy17 =>
    refine Or.inl ⟨by kernel_rfl, ?_⟩
    intro w' hSw
    (try dsimp only at hSw)
    go_simp
    (try rfl)
  (try simp only [List.getElem_toArray, List.getElem_cons_zero, Act.put, List.setIfInBounds_toArray, List.set_cons_zero, List.set_cons_succ])
  refine wpAnyH_take (i := 2) (oi := ?o18) (v := ?v18) ?hi18 ?hs18 ?hf18 ?hr18 ?hQ18 ?hy18 ?hS18 ?rest18
  case hi18 => rfl
  case hs18 => kernel_rfl
  case hf18 => kernel_rfl
  case hr18 => kernel_rfl
  case hQ18 => exact fun _ _ _ h => h
  case hS18 => assumption
  case hy18 =>
    refine Or.inl ⟨by kernel_rfl, ?_⟩
    intro w' hSw
    (try dsimp only at hSw)
    go_simp
    (try rfl)
  (try simp only [List.getElem_toArray, List.getElem_cons_succ, List.getElem_cons_zero, Act.put, List.setIfInBounds_toArray, List.set_cons_zero, List.set_cons_succ])
  refine wpAnyH_take (i := 6) (oi := ?o19) (v := ?v19) ?hi19 ?hs19 ?hf19 ?hr19 ?hQ19 ?hy19 ?hS19 ?rest19
  case hi19 => rfl
  case hs19 => kernel_rfl
  case hf19 => kernel_rfl
  case hr19 => kernel_rfl
  case hQ19 => exact fun _ _ _ h => h
  case hS19 => assumption
  case hy19 =>
    refine Or.inl ⟨by kernel_rfl, ?_⟩
    intro w' hSw
    (try dsimp only at hSw)
    go_simp
    (try rfl)
  (try simp only [List.getElem_toArray, List.getElem_cons_succ, List.getElem_cons_zero, Act.put, List.setIfInBounds_toArray, List.set_cons_zero, List.set_cons_succ])
  refine wpAnyH_ready (rs := [1]) (by kernel_rfl) (by simp) ?_
  refine AllReadyH.cons rfl (fun K hK => ?_) AllReadyH.nil
  go_simp
  refine (specLeastB _ 1 _ rfl).mono ?_
  rintro e w5 ⟨⟨rfl, hc5⟩, hB5⟩
  refine hK.out _ _ ?_ (fun hHeld => ?_)
  · exact bt hHeld hB5
  clear hK K
  (try simp only [List.getElem_toArray, List.getElem_cons_succ, List.getElem_cons_zero, Act.put, List.setIfInBounds_toArray, List.set_cons_zero, List.set_cons_succ])
  refine wpAnyH_weaken (S' := fun w' => Below wq.heap.size wq w' ∧ w'.cell? ⟨wq.heap.size, 1, none⟩ = some (.int .i64 0)) (fun _ h => h.1) _ _ _ _ ?_
  have hH1 : (fun w' => Below wq.heap.size wq w' ∧ w'.cell? ⟨wq.heap.size, 1, none⟩ = some (.int .i64 0)) w5 := ⟨hHeld, hc5⟩
  clear hHeld
  refine wpAnyH_take (i := 3) (oi := ?o20) (v := ?v20) ?hi20 ?hs20 ?hf20 ?hr20 ?hQ20 ?hy20 ?hS20 ?rest20
  case hi20 => rfl
  case hs20 => kernel_rfl
  case hf20 => kernel_rfl
  case hr20 => kernel_rfl
  case hQ20 => exact fun _ _ _ h => h
  case hS20 => assumption
  case hy20 =>
    refine Or.inl ⟨by kernel_rfl, ?_⟩
    intro w' hSw
    (try dsimp only at hSw)
    go_simp
    (try rfl)
  (try simp only [List.getElem_toArray, List.getElem_cons_succ, List.getElem_cons_zero, Act.put, List.setIfInBounds_toArray, List.set_cons_zero, List.set_cons_succ])
  refine wpAnyH_take (i := 4) (oi := ?o21) (v := ?v21) ?hi21 ?hs21 ?hf21 ?hr21 ?hQ21 ?hy21 ?hS21 ?rest21
  case hi21 => rfl
  case hs21 => kernel_rfl
  case hf21 => kernel_rfl
  case hr21 => kernel_rfl
  case hQ21 => exact fun _ _ _ h => h
  case hS21 => assumption
  case hy21 =>
    refine Or.inl ⟨by kernel_rfl, ?_⟩
    intro w' hSw
    (try dsimp only at hSw)
    go_simp
    (try rfl)
  (try simp only [List.getElem_toArray, List.getElem_cons_succ, List.getElem_cons_zero, Act.put, List.setIfInBounds_toArray, List.set_cons_zero, List.set_cons_succ])
  refine wpAnyH_ready (rs := [5]) (by kernel_rfl) (by simp) ?_
  refine AllReadyH.cons rfl (fun K hK => ?_) AllReadyH.nil
  go_simp
  refine (specMostB _ 1 _ rfl).mono ?_
  rintro e w6 ⟨⟨rfl, hc6⟩, hB6⟩
  refine hK.out _ _ ?_ (fun hHeld => ?_)
  · exact ⟨bt hH1.1 hB6, cell_keepX hc5 hB6⟩
  clear hK K
  (try simp only [List.getElem_toArray, List.getElem_cons_succ, List.getElem_cons_zero, Act.put, List.setIfInBounds_toArray, List.set_cons_zero, List.set_cons_succ])
  refine wpAnyH_weaken (S' := fun w' => (Below wq.heap.size wq w' ∧ w'.cell? ⟨wq.heap.size, 1, none⟩ = some (.int .i64 0)) ∧ w'.cell? ⟨w5.heap.size, 1, none⟩ = some (.int .i64 4)) (fun _ h => h.1) _ _ _ _ ?_
  have hH2 : (fun w' => (Below wq.heap.size wq w' ∧ w'.cell? ⟨wq.heap.size, 1, none⟩ = some (.int .i64 0)) ∧ w'.cell? ⟨w5.heap.size, 1, none⟩ = some (.int .i64 4)) w6 := ⟨hHeld, hc6⟩
  clear hHeld hH1
  refine wpAnyH_take (i := 7) (oi := ?o22) (v := ?v22) ?hi22 ?hs22 ?hf22 ?hr22 ?hQ22 ?hy22 ?hS22 ?rest22
  case hi22 => rfl
  case hs22 => kernel_rfl
  case hf22 => kernel_rfl
  case hr22 => kernel_rfl
  case hQ22 => exact fun _ _ _ h => h
  case hS22 => assumption
  case hy22 =>
    refine Or.inl ⟨by kernel_rfl, ?_⟩
    intro w' hSw
    (try dsimp only at hSw)
    go_simp
    (try rfl)
  (try simp only [List.getElem_toArray, List.getElem_cons_succ, List.getElem_cons_zero, Act.put, List.setIfInBounds_toArray, List.set_cons_zero, List.set_cons_succ])
  refine wpAnyH_take (i := 8) (oi := ?o23) (v := ?v23) ?hi23 ?hs23 ?hf23 ?hr23 ?hQ23 ?hy23 ?hS23 ?rest23
  case hi23 => rfl
  case hs23 => kernel_rfl
  case hf23 => kernel_rfl
  case hr23 => kernel_rfl
  case hQ23 => exact fun _ _ _ h => h
  case hS23 => assumption
  case hy23 =>
    refine Or.inl ⟨by kernel_rfl, ?_⟩
    intro w' hSw
    (try dsimp only at hSw)
    go_simp
    (try rfl)
  (try simp only [List.getElem_toArray, List.getElem_cons_succ, List.getElem_cons_zero, Act.put, List.setIfInBounds_toArray, List.set_cons_zero, List.set_cons_succ])
  refine wpAnyH_ready (rs := [9]) (by kernel_rfl) (by simp) ?_
  refine AllReadyH.cons rfl (fun K hK => ?_) AllReadyH.nil
  go_simp
  refine (specIn8 _ _ _ _).mono ?_
  rintro e w7 ⟨rfl, rfl⟩
  rw [HI.out]
  refine hK.out _ _ ?_ (fun hHeld => ?_)
  · exact hH2
  clear hK K
  (try simp only [List.getElem_toArray, List.getElem_cons_succ, List.getElem_cons_zero, Act.put, List.setIfInBounds_toArray, List.set_cons_zero, List.set_cons_succ])
  refine wpAnyH_take (i := 10) (oi := ?o24) (v := ?v24) ?hi24 ?hs24 ?hf24 ?hr24 ?hQ24 ?hy24 ?hS24 ?rest24
  case hi24 => rfl
  case hs24 => kernel_rfl
  case hf24 => kernel_rfl
  case hr24 => kernel_rfl
  case hQ24 => exact fun _ _ _ h => h
  case hS24 => assumption
  case hy24 =>
    refine Or.inl ⟨by kernel_rfl, ?_⟩
    intro w' hSw
    (try dsimp only at hSw)
    go_simp
    (try rfl)
  (try simp only [List.getElem_toArray, List.getElem_cons_succ, List.getElem_cons_zero, Act.put, List.setIfInBounds_toArray, List.set_cons_zero, List.set_cons_succ])
  refine wpAnyH_done (by kernel_rfl) ?_ _
  refine NoPanic.normal ?_
  have hH2 := hHeld.1.1
  have xa := blk_next HYA.out hH2
  have xb := blk_next HYB.out hH2
  have ca0 := cell_blk xa 0
  have fa0 := free_blk xa 0
  have ca1 := cell_blk xa 1
  have fa1 := free_blk xa 1
  have ca2 := cell_blk xa 2
  have fa2 := free_blk xa 2
  have ca3 := cell_blk xa 3
  have fa3 := free_blk xa 3
  have ca4 := cell_blk xa 4
  have fa4 := free_blk xa 4
  have ca5 := cell_blk xa 5
  have fa5 := free_blk xa 5
  have ca6 := cell_blk xa 6
  have fa6 := free_blk xa 6
  have ca7 := cell_blk xa 7
  have fa7 := free_blk xa 7
  have la := blk_lt xa
  have cb0 := cell_blk xb 0
  have fb0 := free_blk xb 0
  have cb1 := cell_blk xb 1
  have fb1 := free_blk xb 1
  have cb2 := cell_blk xb 2
  have fb2 := free_blk xb 2
  have cb3 := cell_blk xb 3
  have fb3 := free_blk xb 3
  have cb4 := cell_blk xb 4
  have fb4 := free_blk xb 4
  have cb5 := cell_blk xb 5
  have fb5 := free_blk xb 5
  have cb6 := cell_blk xb 6
  have fb6 := free_blk xb 6
  have cb7 := cell_blk xb 7
  have fb7 := free_blk xb 7
  have lb := blk_lt xb
  replace HT := Lib.hid (bt HT.out hH2)
  clear xa xb hHeld
  go_wp2_with fail
  (try simp only [Exit.inBlock, Exit.then])
  refine bodyPost_ret (v := .tuple #[.agg #[.int .i64 C.r, .int .i64 z, .int .i64 C.b, .int .i64 C.l, .int .i64 C.m, .int .i64 C.n, .int .i64 C.e, .slice a n c], .int .i64 0]) ?_ rfl ⟨rfl, ?_⟩
  · rw [results_cell_tmp rfl]
    go_simp
  · iterate 8 refine Below.setCell ?_ (by simp <;> omega) _
    exact HT.out
set_option maxRecDepth 100000 in
set_option maxHeartbeats 2000000 in
theorem specLay_n1n (C : Cfg) (a : Option Addr) (n c : Nat) (s : ByteArray) (z : Int) (_z0 : 0 ≤ z) (_z1 : z ≤ 999999999) (hz : Hid (numV s.data.toList = some z)) (HI : Hid (inZ z 0 4 = false)) (w : World) :
    Calls Tryz.prog 39 #[.agg #[.int .i64 C.r, .int .i64 C.d, .int .i64 C.b, .int .i64 C.l, .int .i64 C.m, .int .i64 C.n, .int .i64 C.e, .slice a n c], .int .i64 1, .string s] w fun e w' => e = .returned (.tuple #[.agg #[.int .i64 C.r, .int .i64 z, .int .i64 C.b, .int .i64 C.l, .int .i64 C.m, .int .i64 C.n, .int .i64 C.e, .slice a n c], .int .i64 13]) ∧ Below w.heap.size w w' := by
  have HZ := Lib.hid (numE_some hz.out)
  go_enter Tryz.func39, Tryz.ntmps39
  go_wp2_with fail
  refine (specNumberE s _).mono ?_
  rintro e w1 ⟨rfl, hB1⟩
  rw [HZ.out]
  have xa := blk_next (blk_alloc (alloc_blk w #[.int .i64 C.r, .int .i64 C.d, .int .i64 C.b, .int .i64 C.l, .int .i64 C.m, .int .i64 C.n, .int .i64 C.e, .slice a n c] 26) (.cells #[.int .i64 0, .int .i64 0, .int .i64 0, .int .i64 0, .int .i64 0, .int .i64 0, .int .i64 0, .slice none 0 0] 26)) hB1
  have xb := blk_next (alloc_blk (w.alloc (.cells #[.int .i64 C.r, .int .i64 C.d, .int .i64 C.b, .int .i64 C.l, .int .i64 C.m, .int .i64 C.n, .int .i64 C.e, .slice a n c] 26)) #[.int .i64 0, .int .i64 0, .int .i64 0, .int .i64 0, .int .i64 0, .int .i64 0, .int .i64 0, .slice none 0 0] 26) hB1
  have B01 := bt (bt (below_al w (.cells #[.int .i64 C.r, .int .i64 C.d, .int .i64 C.b, .int .i64 C.l, .int .i64 C.m, .int .i64 C.n, .int .i64 C.e, .slice a n c] 26)) (below_al _ (.cells #[.int .i64 0, .int .i64 0, .int .i64 0, .int .i64 0, .int .i64 0, .int .i64 0, .int .i64 0, .slice none 0 0] 26))) hB1
  simp only [size_alloc] at xb
  have ca0 := cell_blk xa 0
  have fa0 := free_blk xa 0
  have ca1 := cell_blk xa 1
  have fa1 := free_blk xa 1
  have ca2 := cell_blk xa 2
  have fa2 := free_blk xa 2
  have ca3 := cell_blk xa 3
  have fa3 := free_blk xa 3
  have ca4 := cell_blk xa 4
  have fa4 := free_blk xa 4
  have ca5 := cell_blk xa 5
  have fa5 := free_blk xa 5
  have ca6 := cell_blk xa 6
  have fa6 := free_blk xa 6
  have ca7 := cell_blk xa 7
  have fa7 := free_blk xa 7
  have la := blk_lt xa
  have cb0 := cell_blk xb 0
  have fb0 := free_blk xb 0
  have cb1 := cell_blk xb 1
  have fb1 := free_blk xb 1
  have cb2 := cell_blk xb 2
  have fb2 := free_blk xb 2
  have cb3 := cell_blk xb 3
  have fb3 := free_blk xb 3
  have cb4 := cell_blk xb 4
  have fb4 := free_blk xb 4
  have cb5 := cell_blk xb 5
  have fb5 := free_blk xb 5
  have cb6 := cell_blk xb 6
  have fb6 := free_blk xb 6
  have cb7 := cell_blk xb 7
  have fb7 := free_blk xb 7
  have lb := blk_lt xb
  have HT : Hid (Below w.heap.size w (w1.setCell ⟨w.heap.size, 1, none⟩ (.int .i64 z))) := Lib.hid (Below.setCell B01 (by simp) _)
  have ya := heap_setCell_same w1 w.heap.size 1 _ _ (.int .i64 z) xa
  have yb := (heap_setCell_other w1 ⟨w.heap.size, 1, none⟩ (w.heap.size + 1) (.int .i64 z) (by simp)).trans xb
  simp only [List.setIfInBounds_toArray, List.set_cons_zero, List.set_cons_succ] at ya
  have HYA := Lib.hid ya
  have HYB := Lib.hid yb
  clear B01 hB1 xa xb ya yb
  go_wp2_with fail
  clear ca0 ca1 ca2 ca3 ca4 ca5 ca6 ca7 fa0 fa1 fa2 fa3 fa4 fa5 fa6 fa7 la
  clear cb0 cb1 cb2 cb3 cb4 cb5 cb6 cb7 fb0 fb1 fb2 fb3 fb4 fb5 fb6 fb7 lb
  generalize w1.setCell ⟨w.heap.size, 1, none⟩ (.int .i64 z) = wq at HT HYA HYB ⊢
  have hS0 : (fun w' => Below wq.heap.size wq w') wq.drew := (Below.refl _ _).drew
  refine wp_region_noPanic ?_
  refine wp_region_held_drew (S := (fun w' => Below wq.heap.size wq w')) (by kernel_rfl) hS0 (fun hHeld => ?_)
  clear hS0
  refine wpAnyH_take (i := 0) (oi := ?o25) (v := ?v25) ?hi25 ?hs25 ?hf25 ?hr25 ?hQ25 ?hy25 ?hS25 ?rest25
  case hi25 => rfl
  case hs25 => kernel_rfl
  case hf25 => kernel_rfl
  case hr25 => kernel_rfl
  case hQ25 => exact fun _ _ _ h => h
  case hS25 => assumption
  case hy25 =>
    refine Or.inl ⟨by kernel_rfl, ?_⟩
    intro w' hSw
    (try dsimp only at hSw)
    go_simp
    (try rfl)
  (try simp only [List.getElem_toArray, List.getElem_cons_zero, Act.put, List.setIfInBounds_toArray, List.set_cons_zero, List.set_cons_succ])
  refine wpAnyH_take (i := 2) (oi := ?o26) (v := ?v26) ?hi26 ?hs26 ?hf26 ?hr26 ?hQ26 ?hy26 ?hS26 ?rest26
  case hi26 => rfl
  case hs26 => kernel_rfl
  case hf26 => kernel_rfl
  case hr26 => kernel_rfl
  case hQ26 => exact fun _ _ _ h => h
  case hS26 => assumption
  case hy26 =>
    refine Or.inl ⟨by kernel_rfl, ?_⟩
    intro w' hSw
    (try dsimp only at hSw)
    go_simp
    (try rfl)
  (try simp only [List.getElem_toArray, List.getElem_cons_succ, List.getElem_cons_zero, Act.put, List.setIfInBounds_toArray, List.set_cons_zero, List.set_cons_succ])
  refine wpAnyH_take (i := 6) (oi := ?o27) (v := ?v27) ?hi27 ?hs27 ?hf27 ?hr27 ?hQ27 ?hy27 ?hS27 ?rest27
  case hi27 => rfl
  case hs27 => kernel_rfl
  case hf27 => kernel_rfl
  case hr27 => kernel_rfl
  case hQ27 => exact fun _ _ _ h => h
  case hS27 => assumption
  case hy27 =>
    refine Or.inl ⟨by kernel_rfl, ?_⟩
    intro w' hSw
    (try dsimp only at hSw)
    go_simp
    (try rfl)
  (try simp only [List.getElem_toArray, List.getElem_cons_succ, List.getElem_cons_zero, Act.put, List.setIfInBounds_toArray, List.set_cons_zero, List.set_cons_succ])
  refine wpAnyH_ready (rs := [1]) (by kernel_rfl) (by simp) ?_
  refine AllReadyH.cons rfl (fun K hK => ?_) AllReadyH.nil
  go_simp
  refine (specLeastB _ 1 _ rfl).mono ?_
  rintro e w5 ⟨⟨rfl, hc5⟩, hB5⟩
  refine hK.out _ _ ?_ (fun hHeld => ?_)
  · exact bt hHeld hB5
  clear hK K
  (try simp only [List.getElem_toArray, List.getElem_cons_succ, List.getElem_cons_zero, Act.put, List.setIfInBounds_toArray, List.set_cons_zero, List.set_cons_succ])
  refine wpAnyH_weaken (S' := fun w' => Below wq.heap.size wq w' ∧ w'.cell? ⟨wq.heap.size, 1, none⟩ = some (.int .i64 0)) (fun _ h => h.1) _ _ _ _ ?_
  have hH1 : (fun w' => Below wq.heap.size wq w' ∧ w'.cell? ⟨wq.heap.size, 1, none⟩ = some (.int .i64 0)) w5 := ⟨hHeld, hc5⟩
  clear hHeld
  refine wpAnyH_take (i := 3) (oi := ?o28) (v := ?v28) ?hi28 ?hs28 ?hf28 ?hr28 ?hQ28 ?hy28 ?hS28 ?rest28
  case hi28 => rfl
  case hs28 => kernel_rfl
  case hf28 => kernel_rfl
  case hr28 => kernel_rfl
  case hQ28 => exact fun _ _ _ h => h
  case hS28 => assumption
  case hy28 =>
    refine Or.inl ⟨by kernel_rfl, ?_⟩
    intro w' hSw
    (try dsimp only at hSw)
    go_simp
    (try rfl)
  (try simp only [List.getElem_toArray, List.getElem_cons_succ, List.getElem_cons_zero, Act.put, List.setIfInBounds_toArray, List.set_cons_zero, List.set_cons_succ])
  refine wpAnyH_take (i := 4) (oi := ?o29) (v := ?v29) ?hi29 ?hs29 ?hf29 ?hr29 ?hQ29 ?hy29 ?hS29 ?rest29
  case hi29 => rfl
  case hs29 => kernel_rfl
  case hf29 => kernel_rfl
  case hr29 => kernel_rfl
  case hQ29 => exact fun _ _ _ h => h
  case hS29 => assumption
  case hy29 =>
    refine Or.inl ⟨by kernel_rfl, ?_⟩
    intro w' hSw
    (try dsimp only at hSw)
    go_simp
    (try rfl)
  (try simp only [List.getElem_toArray, List.getElem_cons_succ, List.getElem_cons_zero, Act.put, List.setIfInBounds_toArray, List.set_cons_zero, List.set_cons_succ])
  refine wpAnyH_ready (rs := [5]) (by kernel_rfl) (by simp) ?_
  refine AllReadyH.cons rfl (fun K hK => ?_) AllReadyH.nil
  go_simp
  refine (specMostB _ 1 _ rfl).mono ?_
  rintro e w6 ⟨⟨rfl, hc6⟩, hB6⟩
  refine hK.out _ _ ?_ (fun hHeld => ?_)
  · exact ⟨bt hH1.1 hB6, cell_keepX hc5 hB6⟩
  clear hK K
  (try simp only [List.getElem_toArray, List.getElem_cons_succ, List.getElem_cons_zero, Act.put, List.setIfInBounds_toArray, List.set_cons_zero, List.set_cons_succ])
  refine wpAnyH_weaken (S' := fun w' => (Below wq.heap.size wq w' ∧ w'.cell? ⟨wq.heap.size, 1, none⟩ = some (.int .i64 0)) ∧ w'.cell? ⟨w5.heap.size, 1, none⟩ = some (.int .i64 4)) (fun _ h => h.1) _ _ _ _ ?_
  have hH2 : (fun w' => (Below wq.heap.size wq w' ∧ w'.cell? ⟨wq.heap.size, 1, none⟩ = some (.int .i64 0)) ∧ w'.cell? ⟨w5.heap.size, 1, none⟩ = some (.int .i64 4)) w6 := ⟨hHeld, hc6⟩
  clear hHeld hH1
  refine wpAnyH_take (i := 7) (oi := ?o30) (v := ?v30) ?hi30 ?hs30 ?hf30 ?hr30 ?hQ30 ?hy30 ?hS30 ?rest30
  case hi30 => rfl
  case hs30 => kernel_rfl
  case hf30 => kernel_rfl
  case hr30 => kernel_rfl
  case hQ30 => exact fun _ _ _ h => h
  case hS30 => assumption
  case hy30 =>
    refine Or.inl ⟨by kernel_rfl, ?_⟩
    intro w' hSw
    (try dsimp only at hSw)
    go_simp
    (try rfl)
  (try simp only [List.getElem_toArray, List.getElem_cons_succ, List.getElem_cons_zero, Act.put, List.setIfInBounds_toArray, List.set_cons_zero, List.set_cons_succ])
  refine wpAnyH_take (i := 8) (oi := ?o31) (v := ?v31) ?hi31 ?hs31 ?hf31 ?hr31 ?hQ31 ?hy31 ?hS31 ?rest31
  case hi31 => rfl
  case hs31 => kernel_rfl
  case hf31 => kernel_rfl
  case hr31 => kernel_rfl
  case hQ31 => exact fun _ _ _ h => h
  case hS31 => assumption
  case hy31 =>
    refine Or.inl ⟨by kernel_rfl, ?_⟩
    intro w' hSw
    (try dsimp only at hSw)
    go_simp
    (try rfl)
  (try simp only [List.getElem_toArray, List.getElem_cons_succ, List.getElem_cons_zero, Act.put, List.setIfInBounds_toArray, List.set_cons_zero, List.set_cons_succ])
  refine wpAnyH_ready (rs := [9]) (by kernel_rfl) (by simp) ?_
  refine AllReadyH.cons rfl (fun K hK => ?_) AllReadyH.nil
  go_simp
  refine (specIn8 _ _ _ _).mono ?_
  rintro e w7 ⟨rfl, rfl⟩
  rw [HI.out]
  refine hK.out _ _ ?_ (fun hHeld => ?_)
  · exact hH2
  clear hK K
  (try simp only [List.getElem_toArray, List.getElem_cons_succ, List.getElem_cons_zero, Act.put, List.setIfInBounds_toArray, List.set_cons_zero, List.set_cons_succ])
  refine wpAnyH_take (i := 10) (oi := ?o32) (v := ?v32) ?hi32 ?hs32 ?hf32 ?hr32 ?hQ32 ?hy32 ?hS32 ?rest32
  case hi32 => rfl
  case hs32 => kernel_rfl
  case hf32 => kernel_rfl
  case hr32 => kernel_rfl
  case hQ32 => exact fun _ _ _ h => h
  case hS32 => assumption
  case hy32 =>
    refine Or.inl ⟨by kernel_rfl, ?_⟩
    intro w' hSw
    (try dsimp only at hSw)
    go_simp
    (try rfl)
  (try simp only [List.getElem_toArray, List.getElem_cons_succ, List.getElem_cons_zero, Act.put, List.setIfInBounds_toArray, List.set_cons_zero, List.set_cons_succ])
  refine wpAnyH_done (by kernel_rfl) ?_ _
  refine NoPanic.normal ?_
  have hH2 := hHeld.1.1
  have xa := blk_next HYA.out hH2
  have xb := blk_next HYB.out hH2
  have ca0 := cell_blk xa 0
  have fa0 := free_blk xa 0
  have ca1 := cell_blk xa 1
  have fa1 := free_blk xa 1
  have ca2 := cell_blk xa 2
  have fa2 := free_blk xa 2
  have ca3 := cell_blk xa 3
  have fa3 := free_blk xa 3
  have ca4 := cell_blk xa 4
  have fa4 := free_blk xa 4
  have ca5 := cell_blk xa 5
  have fa5 := free_blk xa 5
  have ca6 := cell_blk xa 6
  have fa6 := free_blk xa 6
  have ca7 := cell_blk xa 7
  have fa7 := free_blk xa 7
  have la := blk_lt xa
  have cb0 := cell_blk xb 0
  have fb0 := free_blk xb 0
  have cb1 := cell_blk xb 1
  have fb1 := free_blk xb 1
  have cb2 := cell_blk xb 2
  have fb2 := free_blk xb 2
  have cb3 := cell_blk xb 3
  have fb3 := free_blk xb 3
  have cb4 := cell_blk xb 4
  have fb4 := free_blk xb 4
  have cb5 := cell_blk xb 5
  have fb5 := free_blk xb 5
  have cb6 := cell_blk xb 6
  have fb6 := free_blk xb 6
  have cb7 := cell_blk xb 7
  have fb7 := free_blk xb 7
  have lb := blk_lt xb
  replace HT := Lib.hid (bt HT.out hH2)
  clear xa xb hHeld
  go_wp2_with fail
  (try simp only [Exit.inBlock, Exit.then])
  refine bodyPost_ret (v := .tuple #[.agg #[.int .i64 C.r, .int .i64 z, .int .i64 C.b, .int .i64 C.l, .int .i64 C.m, .int .i64 C.n, .int .i64 C.e, .slice a n c], .int .i64 13]) ?_ rfl ⟨rfl, ?_⟩
  · rw [results_cell_tmp rfl]
    go_simp
  · iterate 8 refine Below.setCell ?_ (by simp <;> omega) _
    exact HT.out
set_option maxRecDepth 100000 in
set_option maxHeartbeats 2000000 in
theorem specLay_n2y (C : Cfg) (a : Option Addr) (n c : Nat) (s : ByteArray) (z : Int) (_z0 : 0 ≤ z) (_z1 : z ≤ 999999999) (hz : Hid (numV s.data.toList = some z)) (HI : Hid (inZ z 2 8 = true)) (w : World) :
    Calls Tryz.prog 39 #[.agg #[.int .i64 C.r, .int .i64 C.d, .int .i64 C.b, .int .i64 C.l, .int .i64 C.m, .int .i64 C.n, .int .i64 C.e, .slice a n c], .int .i64 2, .string s] w fun e w' => e = .returned (.tuple #[.agg #[.int .i64 C.r, .int .i64 C.d, .int .i64 z, .int .i64 C.l, .int .i64 C.m, .int .i64 C.n, .int .i64 C.e, .slice a n c], .int .i64 0]) ∧ Below w.heap.size w w' := by
  have HZ := Lib.hid (numE_some hz.out)
  go_enter Tryz.func39, Tryz.ntmps39
  go_wp2_with fail
  refine (specNumberE s _).mono ?_
  rintro e w1 ⟨rfl, hB1⟩
  rw [HZ.out]
  have xa := blk_next (blk_alloc (alloc_blk w #[.int .i64 C.r, .int .i64 C.d, .int .i64 C.b, .int .i64 C.l, .int .i64 C.m, .int .i64 C.n, .int .i64 C.e, .slice a n c] 26) (.cells #[.int .i64 0, .int .i64 0, .int .i64 0, .int .i64 0, .int .i64 0, .int .i64 0, .int .i64 0, .slice none 0 0] 26)) hB1
  have xb := blk_next (alloc_blk (w.alloc (.cells #[.int .i64 C.r, .int .i64 C.d, .int .i64 C.b, .int .i64 C.l, .int .i64 C.m, .int .i64 C.n, .int .i64 C.e, .slice a n c] 26)) #[.int .i64 0, .int .i64 0, .int .i64 0, .int .i64 0, .int .i64 0, .int .i64 0, .int .i64 0, .slice none 0 0] 26) hB1
  have B01 := bt (bt (below_al w (.cells #[.int .i64 C.r, .int .i64 C.d, .int .i64 C.b, .int .i64 C.l, .int .i64 C.m, .int .i64 C.n, .int .i64 C.e, .slice a n c] 26)) (below_al _ (.cells #[.int .i64 0, .int .i64 0, .int .i64 0, .int .i64 0, .int .i64 0, .int .i64 0, .int .i64 0, .slice none 0 0] 26))) hB1
  simp only [size_alloc] at xb
  have ca0 := cell_blk xa 0
  have fa0 := free_blk xa 0
  have ca1 := cell_blk xa 1
  have fa1 := free_blk xa 1
  have ca2 := cell_blk xa 2
  have fa2 := free_blk xa 2
  have ca3 := cell_blk xa 3
  have fa3 := free_blk xa 3
  have ca4 := cell_blk xa 4
  have fa4 := free_blk xa 4
  have ca5 := cell_blk xa 5
  have fa5 := free_blk xa 5
  have ca6 := cell_blk xa 6
  have fa6 := free_blk xa 6
  have ca7 := cell_blk xa 7
  have fa7 := free_blk xa 7
  have la := blk_lt xa
  have cb0 := cell_blk xb 0
  have fb0 := free_blk xb 0
  have cb1 := cell_blk xb 1
  have fb1 := free_blk xb 1
  have cb2 := cell_blk xb 2
  have fb2 := free_blk xb 2
  have cb3 := cell_blk xb 3
  have fb3 := free_blk xb 3
  have cb4 := cell_blk xb 4
  have fb4 := free_blk xb 4
  have cb5 := cell_blk xb 5
  have fb5 := free_blk xb 5
  have cb6 := cell_blk xb 6
  have fb6 := free_blk xb 6
  have cb7 := cell_blk xb 7
  have fb7 := free_blk xb 7
  have lb := blk_lt xb
  have HT : Hid (Below w.heap.size w (w1.setCell ⟨w.heap.size, 2, none⟩ (.int .i64 z))) := Lib.hid (Below.setCell B01 (by simp) _)
  have ya := heap_setCell_same w1 w.heap.size 2 _ _ (.int .i64 z) xa
  have yb := (heap_setCell_other w1 ⟨w.heap.size, 2, none⟩ (w.heap.size + 1) (.int .i64 z) (by simp)).trans xb
  simp only [List.setIfInBounds_toArray, List.set_cons_zero, List.set_cons_succ] at ya
  have HYA := Lib.hid ya
  have HYB := Lib.hid yb
  clear B01 hB1 xa xb ya yb
  go_wp2_with fail
  clear ca0 ca1 ca2 ca3 ca4 ca5 ca6 ca7 fa0 fa1 fa2 fa3 fa4 fa5 fa6 fa7 la
  clear cb0 cb1 cb2 cb3 cb4 cb5 cb6 cb7 fb0 fb1 fb2 fb3 fb4 fb5 fb6 fb7 lb
  generalize w1.setCell ⟨w.heap.size, 2, none⟩ (.int .i64 z) = wq at HT HYA HYB ⊢
  have hS0 : (fun w' => Below wq.heap.size wq w') wq.drew := (Below.refl _ _).drew
  refine wp_region_noPanic ?_
  refine wp_region_held_drew (S := (fun w' => Below wq.heap.size wq w')) (by kernel_rfl) hS0 (fun hHeld => ?_)
  clear hS0
  refine wpAnyH_take (i := 0) (oi := ?o33) (v := ?v33) ?hi33 ?hs33 ?hf33 ?hr33 ?hQ33 ?hy33 ?hS33 ?rest33
  case hi33 => rfl
  case hs33 => kernel_rfl
  case hf33 => kernel_rfl
  case hr33 => kernel_rfl
  case hQ33 => exact fun _ _ _ h => h
  case hS33 => assumption
  case hy33 =>
    refine Or.inl ⟨by kernel_rfl, ?_⟩
    intro w' hSw
    (try dsimp only at hSw)
    go_simp
    (try rfl)
  (try simp only [List.getElem_toArray, List.getElem_cons_zero, Act.put, List.setIfInBounds_toArray, List.set_cons_zero, List.set_cons_succ])
  refine wpAnyH_take (i := 2) (oi := ?o34) (v := ?v34) ?hi34 ?hs34 ?hf34 ?hr34 ?hQ34 ?hy34 ?hS34 ?rest34
  case hi34 => rfl
  case hs34 => kernel_rfl
  case hf34 => kernel_rfl
  case hr34 => kernel_rfl
  case hQ34 => exact fun _ _ _ h => h
  case hS34 => assumption
  case hy34 =>
    refine Or.inl ⟨by kernel_rfl, ?_⟩
    intro w' hSw
    (try dsimp only at hSw)
    go_simp
    (try rfl)
  (try simp only [List.getElem_toArray, List.getElem_cons_succ, List.getElem_cons_zero, Act.put, List.setIfInBounds_toArray, List.set_cons_zero, List.set_cons_succ])
  refine wpAnyH_take (i := 6) (oi := ?o35) (v := ?v35) ?hi35 ?hs35 ?hf35 ?hr35 ?hQ35 ?hy35 ?hS35 ?rest35
  case hi35 => rfl
  case hs35 => kernel_rfl
  case hf35 => kernel_rfl
  case hr35 => kernel_rfl
  case hQ35 => exact fun _ _ _ h => h
  case hS35 => assumption
  case hy35 =>
    refine Or.inl ⟨by kernel_rfl, ?_⟩
    intro w' hSw
    (try dsimp only at hSw)
    go_simp
    (try rfl)
  (try simp only [List.getElem_toArray, List.getElem_cons_succ, List.getElem_cons_zero, Act.put, List.setIfInBounds_toArray, List.set_cons_zero, List.set_cons_succ])
  refine wpAnyH_ready (rs := [1]) (by kernel_rfl) (by simp) ?_
  refine AllReadyH.cons rfl (fun K hK => ?_) AllReadyH.nil
  go_simp
  refine (specLeastB _ 2 _ rfl).mono ?_
  rintro e w5 ⟨⟨rfl, hc5⟩, hB5⟩
  refine hK.out _ _ ?_ (fun hHeld => ?_)
  · exact bt hHeld hB5
  clear hK K
  (try simp only [List.getElem_toArray, List.getElem_cons_succ, List.getElem_cons_zero, Act.put, List.setIfInBounds_toArray, List.set_cons_zero, List.set_cons_succ])
  refine wpAnyH_weaken (S' := fun w' => Below wq.heap.size wq w' ∧ w'.cell? ⟨wq.heap.size, 2, none⟩ = some (.int .i64 2)) (fun _ h => h.1) _ _ _ _ ?_
  have hH1 : (fun w' => Below wq.heap.size wq w' ∧ w'.cell? ⟨wq.heap.size, 2, none⟩ = some (.int .i64 2)) w5 := ⟨hHeld, hc5⟩
  clear hHeld
  refine wpAnyH_take (i := 3) (oi := ?o36) (v := ?v36) ?hi36 ?hs36 ?hf36 ?hr36 ?hQ36 ?hy36 ?hS36 ?rest36
  case hi36 => rfl
  case hs36 => kernel_rfl
  case hf36 => kernel_rfl
  case hr36 => kernel_rfl
  case hQ36 => exact fun _ _ _ h => h
  case hS36 => assumption
  case hy36 =>
    refine Or.inl ⟨by kernel_rfl, ?_⟩
    intro w' hSw
    (try dsimp only at hSw)
    go_simp
    (try rfl)
  (try simp only [List.getElem_toArray, List.getElem_cons_succ, List.getElem_cons_zero, Act.put, List.setIfInBounds_toArray, List.set_cons_zero, List.set_cons_succ])
  refine wpAnyH_take (i := 4) (oi := ?o37) (v := ?v37) ?hi37 ?hs37 ?hf37 ?hr37 ?hQ37 ?hy37 ?hS37 ?rest37
  case hi37 => rfl
  case hs37 => kernel_rfl
  case hf37 => kernel_rfl
  case hr37 => kernel_rfl
  case hQ37 => exact fun _ _ _ h => h
  case hS37 => assumption
  case hy37 =>
    refine Or.inl ⟨by kernel_rfl, ?_⟩
    intro w' hSw
    (try dsimp only at hSw)
    go_simp
    (try rfl)
  (try simp only [List.getElem_toArray, List.getElem_cons_succ, List.getElem_cons_zero, Act.put, List.setIfInBounds_toArray, List.set_cons_zero, List.set_cons_succ])
  refine wpAnyH_ready (rs := [5]) (by kernel_rfl) (by simp) ?_
  refine AllReadyH.cons rfl (fun K hK => ?_) AllReadyH.nil
  go_simp
  refine (specMostB _ 2 _ rfl).mono ?_
  rintro e w6 ⟨⟨rfl, hc6⟩, hB6⟩
  refine hK.out _ _ ?_ (fun hHeld => ?_)
  · exact ⟨bt hH1.1 hB6, cell_keepX hc5 hB6⟩
  clear hK K
  (try simp only [List.getElem_toArray, List.getElem_cons_succ, List.getElem_cons_zero, Act.put, List.setIfInBounds_toArray, List.set_cons_zero, List.set_cons_succ])
  refine wpAnyH_weaken (S' := fun w' => (Below wq.heap.size wq w' ∧ w'.cell? ⟨wq.heap.size, 2, none⟩ = some (.int .i64 2)) ∧ w'.cell? ⟨w5.heap.size, 2, none⟩ = some (.int .i64 8)) (fun _ h => h.1) _ _ _ _ ?_
  have hH2 : (fun w' => (Below wq.heap.size wq w' ∧ w'.cell? ⟨wq.heap.size, 2, none⟩ = some (.int .i64 2)) ∧ w'.cell? ⟨w5.heap.size, 2, none⟩ = some (.int .i64 8)) w6 := ⟨hHeld, hc6⟩
  clear hHeld hH1
  refine wpAnyH_take (i := 7) (oi := ?o38) (v := ?v38) ?hi38 ?hs38 ?hf38 ?hr38 ?hQ38 ?hy38 ?hS38 ?rest38
  case hi38 => rfl
  case hs38 => kernel_rfl
  case hf38 => kernel_rfl
  case hr38 => kernel_rfl
  case hQ38 => exact fun _ _ _ h => h
  case hS38 => assumption
  case hy38 =>
    refine Or.inl ⟨by kernel_rfl, ?_⟩
    intro w' hSw
    (try dsimp only at hSw)
    go_simp
    (try rfl)
  (try simp only [List.getElem_toArray, List.getElem_cons_succ, List.getElem_cons_zero, Act.put, List.setIfInBounds_toArray, List.set_cons_zero, List.set_cons_succ])
  refine wpAnyH_take (i := 8) (oi := ?o39) (v := ?v39) ?hi39 ?hs39 ?hf39 ?hr39 ?hQ39 ?hy39 ?hS39 ?rest39
  case hi39 => rfl
  case hs39 => kernel_rfl
  case hf39 => kernel_rfl
  case hr39 => kernel_rfl
  case hQ39 => exact fun _ _ _ h => h
  case hS39 => assumption
  case hy39 =>
    refine Or.inl ⟨by kernel_rfl, ?_⟩
    intro w' hSw
    (try dsimp only at hSw)
    go_simp
    (try rfl)
  (try simp only [List.getElem_toArray, List.getElem_cons_succ, List.getElem_cons_zero, Act.put, List.setIfInBounds_toArray, List.set_cons_zero, List.set_cons_succ])
  refine wpAnyH_ready (rs := [9]) (by kernel_rfl) (by simp) ?_
  refine AllReadyH.cons rfl (fun K hK => ?_) AllReadyH.nil
  go_simp
  refine (specIn8 _ _ _ _).mono ?_
  rintro e w7 ⟨rfl, rfl⟩
  rw [HI.out]
  refine hK.out _ _ ?_ (fun hHeld => ?_)
  · exact hH2
  clear hK K
  (try simp only [List.getElem_toArray, List.getElem_cons_succ, List.getElem_cons_zero, Act.put, List.setIfInBounds_toArray, List.set_cons_zero, List.set_cons_succ])
  refine wpAnyH_take (i := 10) (oi := ?o40) (v := ?v40) ?hi40 ?hs40 ?hf40 ?hr40 ?hQ40 ?hy40 ?hS40 ?rest40
  case hi40 => rfl
  case hs40 => kernel_rfl
  case hf40 => kernel_rfl
  case hr40 => kernel_rfl
  case hQ40 => exact fun _ _ _ h => h
  case hS40 => assumption
  case hy40 =>
    refine Or.inl ⟨by kernel_rfl, ?_⟩
    intro w' hSw
    (try dsimp only at hSw)
    go_simp
    (try rfl)
  (try simp only [List.getElem_toArray, List.getElem_cons_succ, List.getElem_cons_zero, Act.put, List.setIfInBounds_toArray, List.set_cons_zero, List.set_cons_succ])
  refine wpAnyH_done (by kernel_rfl) ?_ _
  refine NoPanic.normal ?_
  have hH2 := hHeld.1.1
  have xa := blk_next HYA.out hH2
  have xb := blk_next HYB.out hH2
  have ca0 := cell_blk xa 0
  have fa0 := free_blk xa 0
  have ca1 := cell_blk xa 1
  have fa1 := free_blk xa 1
  have ca2 := cell_blk xa 2
  have fa2 := free_blk xa 2
  have ca3 := cell_blk xa 3
  have fa3 := free_blk xa 3
  have ca4 := cell_blk xa 4
  have fa4 := free_blk xa 4
  have ca5 := cell_blk xa 5
  have fa5 := free_blk xa 5
  have ca6 := cell_blk xa 6
  have fa6 := free_blk xa 6
  have ca7 := cell_blk xa 7
  have fa7 := free_blk xa 7
  have la := blk_lt xa
  have cb0 := cell_blk xb 0
  have fb0 := free_blk xb 0
  have cb1 := cell_blk xb 1
  have fb1 := free_blk xb 1
  have cb2 := cell_blk xb 2
  have fb2 := free_blk xb 2
  have cb3 := cell_blk xb 3
  have fb3 := free_blk xb 3
  have cb4 := cell_blk xb 4
  have fb4 := free_blk xb 4
  have cb5 := cell_blk xb 5
  have fb5 := free_blk xb 5
  have cb6 := cell_blk xb 6
  have fb6 := free_blk xb 6
  have cb7 := cell_blk xb 7
  have fb7 := free_blk xb 7
  have lb := blk_lt xb
  replace HT := Lib.hid (bt HT.out hH2)
  clear xa xb hHeld
  go_wp2_with fail
  (try simp only [Exit.inBlock, Exit.then])
  refine bodyPost_ret (v := .tuple #[.agg #[.int .i64 C.r, .int .i64 C.d, .int .i64 z, .int .i64 C.l, .int .i64 C.m, .int .i64 C.n, .int .i64 C.e, .slice a n c], .int .i64 0]) ?_ rfl ⟨rfl, ?_⟩
  · rw [results_cell_tmp rfl]
    go_simp
  · iterate 8 refine Below.setCell ?_ (by simp <;> omega) _
    exact HT.out
set_option maxRecDepth 100000 in
set_option maxHeartbeats 2000000 in
theorem specLay_n2n (C : Cfg) (a : Option Addr) (n c : Nat) (s : ByteArray) (z : Int) (_z0 : 0 ≤ z) (_z1 : z ≤ 999999999) (hz : Hid (numV s.data.toList = some z)) (HI : Hid (inZ z 2 8 = false)) (w : World) :
    Calls Tryz.prog 39 #[.agg #[.int .i64 C.r, .int .i64 C.d, .int .i64 C.b, .int .i64 C.l, .int .i64 C.m, .int .i64 C.n, .int .i64 C.e, .slice a n c], .int .i64 2, .string s] w fun e w' => e = .returned (.tuple #[.agg #[.int .i64 C.r, .int .i64 C.d, .int .i64 z, .int .i64 C.l, .int .i64 C.m, .int .i64 C.n, .int .i64 C.e, .slice a n c], .int .i64 13]) ∧ Below w.heap.size w w' := by
  have HZ := Lib.hid (numE_some hz.out)
  go_enter Tryz.func39, Tryz.ntmps39
  go_wp2_with fail
  refine (specNumberE s _).mono ?_
  rintro e w1 ⟨rfl, hB1⟩
  rw [HZ.out]
  have xa := blk_next (blk_alloc (alloc_blk w #[.int .i64 C.r, .int .i64 C.d, .int .i64 C.b, .int .i64 C.l, .int .i64 C.m, .int .i64 C.n, .int .i64 C.e, .slice a n c] 26) (.cells #[.int .i64 0, .int .i64 0, .int .i64 0, .int .i64 0, .int .i64 0, .int .i64 0, .int .i64 0, .slice none 0 0] 26)) hB1
  have xb := blk_next (alloc_blk (w.alloc (.cells #[.int .i64 C.r, .int .i64 C.d, .int .i64 C.b, .int .i64 C.l, .int .i64 C.m, .int .i64 C.n, .int .i64 C.e, .slice a n c] 26)) #[.int .i64 0, .int .i64 0, .int .i64 0, .int .i64 0, .int .i64 0, .int .i64 0, .int .i64 0, .slice none 0 0] 26) hB1
  have B01 := bt (bt (below_al w (.cells #[.int .i64 C.r, .int .i64 C.d, .int .i64 C.b, .int .i64 C.l, .int .i64 C.m, .int .i64 C.n, .int .i64 C.e, .slice a n c] 26)) (below_al _ (.cells #[.int .i64 0, .int .i64 0, .int .i64 0, .int .i64 0, .int .i64 0, .int .i64 0, .int .i64 0, .slice none 0 0] 26))) hB1
  simp only [size_alloc] at xb
  have ca0 := cell_blk xa 0
  have fa0 := free_blk xa 0
  have ca1 := cell_blk xa 1
  have fa1 := free_blk xa 1
  have ca2 := cell_blk xa 2
  have fa2 := free_blk xa 2
  have ca3 := cell_blk xa 3
  have fa3 := free_blk xa 3
  have ca4 := cell_blk xa 4
  have fa4 := free_blk xa 4
  have ca5 := cell_blk xa 5
  have fa5 := free_blk xa 5
  have ca6 := cell_blk xa 6
  have fa6 := free_blk xa 6
  have ca7 := cell_blk xa 7
  have fa7 := free_blk xa 7
  have la := blk_lt xa
  have cb0 := cell_blk xb 0
  have fb0 := free_blk xb 0
  have cb1 := cell_blk xb 1
  have fb1 := free_blk xb 1
  have cb2 := cell_blk xb 2
  have fb2 := free_blk xb 2
  have cb3 := cell_blk xb 3
  have fb3 := free_blk xb 3
  have cb4 := cell_blk xb 4
  have fb4 := free_blk xb 4
  have cb5 := cell_blk xb 5
  have fb5 := free_blk xb 5
  have cb6 := cell_blk xb 6
  have fb6 := free_blk xb 6
  have cb7 := cell_blk xb 7
  have fb7 := free_blk xb 7
  have lb := blk_lt xb
  have HT : Hid (Below w.heap.size w (w1.setCell ⟨w.heap.size, 2, none⟩ (.int .i64 z))) := Lib.hid (Below.setCell B01 (by simp) _)
  have ya := heap_setCell_same w1 w.heap.size 2 _ _ (.int .i64 z) xa
  have yb := (heap_setCell_other w1 ⟨w.heap.size, 2, none⟩ (w.heap.size + 1) (.int .i64 z) (by simp)).trans xb
  simp only [List.setIfInBounds_toArray, List.set_cons_zero, List.set_cons_succ] at ya
  have HYA := Lib.hid ya
  have HYB := Lib.hid yb
  clear B01 hB1 xa xb ya yb
  go_wp2_with fail
  clear ca0 ca1 ca2 ca3 ca4 ca5 ca6 ca7 fa0 fa1 fa2 fa3 fa4 fa5 fa6 fa7 la
  clear cb0 cb1 cb2 cb3 cb4 cb5 cb6 cb7 fb0 fb1 fb2 fb3 fb4 fb5 fb6 fb7 lb
  generalize w1.setCell ⟨w.heap.size, 2, none⟩ (.int .i64 z) = wq at HT HYA HYB ⊢
  have hS0 : (fun w' => Below wq.heap.size wq w') wq.drew := (Below.refl _ _).drew
  refine wp_region_noPanic ?_
  refine wp_region_held_drew (S := (fun w' => Below wq.heap.size wq w')) (by kernel_rfl) hS0 (fun hHeld => ?_)
  clear hS0
  refine wpAnyH_take (i := 0) (oi := ?o41) (v := ?v41) ?hi41 ?hs41 ?hf41 ?hr41 ?hQ41 ?hy41 ?hS41 ?rest41
  case hi41 => rfl
  case hs41 => kernel_rfl
  case hf41 => kernel_rfl
  case hr41 => kernel_rfl
  case hQ41 => exact fun _ _ _ h => h
  case hS41 => assumption
  case hy41 =>
    refine Or.inl ⟨by kernel_rfl, ?_⟩
    intro w' hSw
    (try dsimp only at hSw)
    go_simp
    (try rfl)
  (try simp only [List.getElem_toArray, List.getElem_cons_zero, Act.put, List.setIfInBounds_toArray, List.set_cons_zero, List.set_cons_succ])
  refine wpAnyH_take (i := 2) (oi := ?o42) (v := ?v42) ?hi42 ?hs42 ?hf42 ?hr42 ?hQ42 ?hy42 ?hS42 ?rest42
  case hi42 => rfl
  case hs42 => kernel_rfl
  case hf42 => kernel_rfl
  case hr42 => kernel_rfl
  case hQ42 => exact fun _ _ _ h => h
  case hS42 => assumption
  case hy42 =>
    refine Or.inl ⟨by kernel_rfl, ?_⟩
    intro w' hSw
    (try dsimp only at hSw)
    go_simp
    (try rfl)
  (try simp only [List.getElem_toArray, List.getElem_cons_succ, List.getElem_cons_zero, Act.put, List.setIfInBounds_toArray, List.set_cons_zero, List.set_cons_succ])
  refine wpAnyH_take (i := 6) (oi := ?o43) (v := ?v43) ?hi43 ?hs43 ?hf43 ?hr43 ?hQ43 ?hy43 ?hS43 ?rest43
  case hi43 => rfl
  case hs43 => kernel_rfl
  case hf43 => kernel_rfl
  case hr43 => kernel_rfl
  case hQ43 => exact fun _ _ _ h => h
  case hS43 => assumption
  case hy43 =>
    refine Or.inl ⟨by kernel_rfl, ?_⟩
    intro w' hSw
    (try dsimp only at hSw)
    go_simp
    (try rfl)
  (try simp only [List.getElem_toArray, List.getElem_cons_succ, List.getElem_cons_zero, Act.put, List.setIfInBounds_toArray, List.set_cons_zero, List.set_cons_succ])
  refine wpAnyH_ready (rs := [1]) (by kernel_rfl) (by simp) ?_
  refine AllReadyH.cons rfl (fun K hK => ?_) AllReadyH.nil
  go_simp
  refine (specLeastB _ 2 _ rfl).mono ?_
  rintro e w5 ⟨⟨rfl, hc5⟩, hB5⟩
  refine hK.out _ _ ?_ (fun hHeld => ?_)
  · exact bt hHeld hB5
  clear hK K
  (try simp only [List.getElem_toArray, List.getElem_cons_succ, List.getElem_cons_zero, Act.put, List.setIfInBounds_toArray, List.set_cons_zero, List.set_cons_succ])
  refine wpAnyH_weaken (S' := fun w' => Below wq.heap.size wq w' ∧ w'.cell? ⟨wq.heap.size, 2, none⟩ = some (.int .i64 2)) (fun _ h => h.1) _ _ _ _ ?_
  have hH1 : (fun w' => Below wq.heap.size wq w' ∧ w'.cell? ⟨wq.heap.size, 2, none⟩ = some (.int .i64 2)) w5 := ⟨hHeld, hc5⟩
  clear hHeld
  refine wpAnyH_take (i := 3) (oi := ?o44) (v := ?v44) ?hi44 ?hs44 ?hf44 ?hr44 ?hQ44 ?hy44 ?hS44 ?rest44
  case hi44 => rfl
  case hs44 => kernel_rfl
  case hf44 => kernel_rfl
  case hr44 => kernel_rfl
  case hQ44 => exact fun _ _ _ h => h
  case hS44 => assumption
  case hy44 =>
    refine Or.inl ⟨by kernel_rfl, ?_⟩
    intro w' hSw
    (try dsimp only at hSw)
    go_simp
    (try rfl)
  (try simp only [List.getElem_toArray, List.getElem_cons_succ, List.getElem_cons_zero, Act.put, List.setIfInBounds_toArray, List.set_cons_zero, List.set_cons_succ])
  refine wpAnyH_take (i := 4) (oi := ?o45) (v := ?v45) ?hi45 ?hs45 ?hf45 ?hr45 ?hQ45 ?hy45 ?hS45 ?rest45
  case hi45 => rfl
  case hs45 => kernel_rfl
  case hf45 => kernel_rfl
  case hr45 => kernel_rfl
  case hQ45 => exact fun _ _ _ h => h
  case hS45 => assumption
  case hy45 =>
    refine Or.inl ⟨by kernel_rfl, ?_⟩
    intro w' hSw
    (try dsimp only at hSw)
    go_simp
    (try rfl)
  (try simp only [List.getElem_toArray, List.getElem_cons_succ, List.getElem_cons_zero, Act.put, List.setIfInBounds_toArray, List.set_cons_zero, List.set_cons_succ])
  refine wpAnyH_ready (rs := [5]) (by kernel_rfl) (by simp) ?_
  refine AllReadyH.cons rfl (fun K hK => ?_) AllReadyH.nil
  go_simp
  refine (specMostB _ 2 _ rfl).mono ?_
  rintro e w6 ⟨⟨rfl, hc6⟩, hB6⟩
  refine hK.out _ _ ?_ (fun hHeld => ?_)
  · exact ⟨bt hH1.1 hB6, cell_keepX hc5 hB6⟩
  clear hK K
  (try simp only [List.getElem_toArray, List.getElem_cons_succ, List.getElem_cons_zero, Act.put, List.setIfInBounds_toArray, List.set_cons_zero, List.set_cons_succ])
  refine wpAnyH_weaken (S' := fun w' => (Below wq.heap.size wq w' ∧ w'.cell? ⟨wq.heap.size, 2, none⟩ = some (.int .i64 2)) ∧ w'.cell? ⟨w5.heap.size, 2, none⟩ = some (.int .i64 8)) (fun _ h => h.1) _ _ _ _ ?_
  have hH2 : (fun w' => (Below wq.heap.size wq w' ∧ w'.cell? ⟨wq.heap.size, 2, none⟩ = some (.int .i64 2)) ∧ w'.cell? ⟨w5.heap.size, 2, none⟩ = some (.int .i64 8)) w6 := ⟨hHeld, hc6⟩
  clear hHeld hH1
  refine wpAnyH_take (i := 7) (oi := ?o46) (v := ?v46) ?hi46 ?hs46 ?hf46 ?hr46 ?hQ46 ?hy46 ?hS46 ?rest46
  case hi46 => rfl
  case hs46 => kernel_rfl
  case hf46 => kernel_rfl
  case hr46 => kernel_rfl
  case hQ46 => exact fun _ _ _ h => h
  case hS46 => assumption
  case hy46 =>
    refine Or.inl ⟨by kernel_rfl, ?_⟩
    intro w' hSw
    (try dsimp only at hSw)
    go_simp
    (try rfl)
  (try simp only [List.getElem_toArray, List.getElem_cons_succ, List.getElem_cons_zero, Act.put, List.setIfInBounds_toArray, List.set_cons_zero, List.set_cons_succ])
  refine wpAnyH_take (i := 8) (oi := ?o47) (v := ?v47) ?hi47 ?hs47 ?hf47 ?hr47 ?hQ47 ?hy47 ?hS47 ?rest47
  case hi47 => rfl
  case hs47 => kernel_rfl
  case hf47 => kernel_rfl
  case hr47 => kernel_rfl
  case hQ47 => exact fun _ _ _ h => h
  case hS47 => assumption
  case hy47 =>
    refine Or.inl ⟨by kernel_rfl, ?_⟩
    intro w' hSw
    (try dsimp only at hSw)
    go_simp
    (try rfl)
  (try simp only [List.getElem_toArray, List.getElem_cons_succ, List.getElem_cons_zero, Act.put, List.setIfInBounds_toArray, List.set_cons_zero, List.set_cons_succ])
  refine wpAnyH_ready (rs := [9]) (by kernel_rfl) (by simp) ?_
  refine AllReadyH.cons rfl (fun K hK => ?_) AllReadyH.nil
  go_simp
  refine (specIn8 _ _ _ _).mono ?_
  rintro e w7 ⟨rfl, rfl⟩
  rw [HI.out]
  refine hK.out _ _ ?_ (fun hHeld => ?_)
  · exact hH2
  clear hK K
  (try simp only [List.getElem_toArray, List.getElem_cons_succ, List.getElem_cons_zero, Act.put, List.setIfInBounds_toArray, List.set_cons_zero, List.set_cons_succ])
  refine wpAnyH_take (i := 10) (oi := ?o48) (v := ?v48) ?hi48 ?hs48 ?hf48 ?hr48 ?hQ48 ?hy48 ?hS48 ?rest48
  case hi48 => rfl
  case hs48 => kernel_rfl
  case hf48 => kernel_rfl
  case hr48 => kernel_rfl
  case hQ48 => exact fun _ _ _ h => h
  case hS48 => assumption
  case hy48 =>
    refine Or.inl ⟨by kernel_rfl, ?_⟩
    intro w' hSw
    (try dsimp only at hSw)
    go_simp
    (try rfl)
  (try simp only [List.getElem_toArray, List.getElem_cons_succ, List.getElem_cons_zero, Act.put, List.setIfInBounds_toArray, List.set_cons_zero, List.set_cons_succ])
  refine wpAnyH_done (by kernel_rfl) ?_ _
  refine NoPanic.normal ?_
  have hH2 := hHeld.1.1
  have xa := blk_next HYA.out hH2
  have xb := blk_next HYB.out hH2
  have ca0 := cell_blk xa 0
  have fa0 := free_blk xa 0
  have ca1 := cell_blk xa 1
  have fa1 := free_blk xa 1
  have ca2 := cell_blk xa 2
  have fa2 := free_blk xa 2
  have ca3 := cell_blk xa 3
  have fa3 := free_blk xa 3
  have ca4 := cell_blk xa 4
  have fa4 := free_blk xa 4
  have ca5 := cell_blk xa 5
  have fa5 := free_blk xa 5
  have ca6 := cell_blk xa 6
  have fa6 := free_blk xa 6
  have ca7 := cell_blk xa 7
  have fa7 := free_blk xa 7
  have la := blk_lt xa
  have cb0 := cell_blk xb 0
  have fb0 := free_blk xb 0
  have cb1 := cell_blk xb 1
  have fb1 := free_blk xb 1
  have cb2 := cell_blk xb 2
  have fb2 := free_blk xb 2
  have cb3 := cell_blk xb 3
  have fb3 := free_blk xb 3
  have cb4 := cell_blk xb 4
  have fb4 := free_blk xb 4
  have cb5 := cell_blk xb 5
  have fb5 := free_blk xb 5
  have cb6 := cell_blk xb 6
  have fb6 := free_blk xb 6
  have cb7 := cell_blk xb 7
  have fb7 := free_blk xb 7
  have lb := blk_lt xb
  replace HT := Lib.hid (bt HT.out hH2)
  clear xa xb hHeld
  go_wp2_with fail
  (try simp only [Exit.inBlock, Exit.then])
  refine bodyPost_ret (v := .tuple #[.agg #[.int .i64 C.r, .int .i64 C.d, .int .i64 z, .int .i64 C.l, .int .i64 C.m, .int .i64 C.n, .int .i64 C.e, .slice a n c], .int .i64 13]) ?_ rfl ⟨rfl, ?_⟩
  · rw [results_cell_tmp rfl]
    go_simp
  · iterate 8 refine Below.setCell ?_ (by simp <;> omega) _
    exact HT.out
set_option maxRecDepth 100000 in
set_option maxHeartbeats 2000000 in
theorem specLay_n3y (C : Cfg) (a : Option Addr) (n c : Nat) (s : ByteArray) (z : Int) (_z0 : 0 ≤ z) (_z1 : z ≤ 999999999) (hz : Hid (numV s.data.toList = some z)) (HI : Hid (inZ z 1 100 = true)) (w : World) :
    Calls Tryz.prog 39 #[.agg #[.int .i64 C.r, .int .i64 C.d, .int .i64 C.b, .int .i64 C.l, .int .i64 C.m, .int .i64 C.n, .int .i64 C.e, .slice a n c], .int .i64 3, .string s] w fun e w' => e = .returned (.tuple #[.agg #[.int .i64 C.r, .int .i64 C.d, .int .i64 C.b, .int .i64 z, .int .i64 C.m, .int .i64 C.n, .int .i64 C.e, .slice a n c], .int .i64 0]) ∧ Below w.heap.size w w' := by
  have HZ := Lib.hid (numE_some hz.out)
  go_enter Tryz.func39, Tryz.ntmps39
  go_wp2_with fail
  refine (specNumberE s _).mono ?_
  rintro e w1 ⟨rfl, hB1⟩
  rw [HZ.out]
  have xa := blk_next (blk_alloc (alloc_blk w #[.int .i64 C.r, .int .i64 C.d, .int .i64 C.b, .int .i64 C.l, .int .i64 C.m, .int .i64 C.n, .int .i64 C.e, .slice a n c] 26) (.cells #[.int .i64 0, .int .i64 0, .int .i64 0, .int .i64 0, .int .i64 0, .int .i64 0, .int .i64 0, .slice none 0 0] 26)) hB1
  have xb := blk_next (alloc_blk (w.alloc (.cells #[.int .i64 C.r, .int .i64 C.d, .int .i64 C.b, .int .i64 C.l, .int .i64 C.m, .int .i64 C.n, .int .i64 C.e, .slice a n c] 26)) #[.int .i64 0, .int .i64 0, .int .i64 0, .int .i64 0, .int .i64 0, .int .i64 0, .int .i64 0, .slice none 0 0] 26) hB1
  have B01 := bt (bt (below_al w (.cells #[.int .i64 C.r, .int .i64 C.d, .int .i64 C.b, .int .i64 C.l, .int .i64 C.m, .int .i64 C.n, .int .i64 C.e, .slice a n c] 26)) (below_al _ (.cells #[.int .i64 0, .int .i64 0, .int .i64 0, .int .i64 0, .int .i64 0, .int .i64 0, .int .i64 0, .slice none 0 0] 26))) hB1
  simp only [size_alloc] at xb
  have ca0 := cell_blk xa 0
  have fa0 := free_blk xa 0
  have ca1 := cell_blk xa 1
  have fa1 := free_blk xa 1
  have ca2 := cell_blk xa 2
  have fa2 := free_blk xa 2
  have ca3 := cell_blk xa 3
  have fa3 := free_blk xa 3
  have ca4 := cell_blk xa 4
  have fa4 := free_blk xa 4
  have ca5 := cell_blk xa 5
  have fa5 := free_blk xa 5
  have ca6 := cell_blk xa 6
  have fa6 := free_blk xa 6
  have ca7 := cell_blk xa 7
  have fa7 := free_blk xa 7
  have la := blk_lt xa
  have cb0 := cell_blk xb 0
  have fb0 := free_blk xb 0
  have cb1 := cell_blk xb 1
  have fb1 := free_blk xb 1
  have cb2 := cell_blk xb 2
  have fb2 := free_blk xb 2
  have cb3 := cell_blk xb 3
  have fb3 := free_blk xb 3
  have cb4 := cell_blk xb 4
  have fb4 := free_blk xb 4
  have cb5 := cell_blk xb 5
  have fb5 := free_blk xb 5
  have cb6 := cell_blk xb 6
  have fb6 := free_blk xb 6
  have cb7 := cell_blk xb 7
  have fb7 := free_blk xb 7
  have lb := blk_lt xb
  have HT : Hid (Below w.heap.size w (w1.setCell ⟨w.heap.size, 3, none⟩ (.int .i64 z))) := Lib.hid (Below.setCell B01 (by simp) _)
  have ya := heap_setCell_same w1 w.heap.size 3 _ _ (.int .i64 z) xa
  have yb := (heap_setCell_other w1 ⟨w.heap.size, 3, none⟩ (w.heap.size + 1) (.int .i64 z) (by simp)).trans xb
  simp only [List.setIfInBounds_toArray, List.set_cons_zero, List.set_cons_succ] at ya
  have HYA := Lib.hid ya
  have HYB := Lib.hid yb
  clear B01 hB1 xa xb ya yb
  go_wp2_with fail
  clear ca0 ca1 ca2 ca3 ca4 ca5 ca6 ca7 fa0 fa1 fa2 fa3 fa4 fa5 fa6 fa7 la
  clear cb0 cb1 cb2 cb3 cb4 cb5 cb6 cb7 fb0 fb1 fb2 fb3 fb4 fb5 fb6 fb7 lb
  generalize w1.setCell ⟨w.heap.size, 3, none⟩ (.int .i64 z) = wq at HT HYA HYB ⊢
  have hS0 : (fun w' => Below wq.heap.size wq w') wq.drew := (Below.refl _ _).drew
  refine wp_region_noPanic ?_
  refine wp_region_held_drew (S := (fun w' => Below wq.heap.size wq w')) (by kernel_rfl) hS0 (fun hHeld => ?_)
  clear hS0
  refine wpAnyH_take (i := 0) (oi := ?o49) (v := ?v49) ?hi49 ?hs49 ?hf49 ?hr49 ?hQ49 ?hy49 ?hS49 ?rest49
  case hi49 => rfl
  case hs49 => kernel_rfl
  case hf49 => kernel_rfl
  case hr49 => kernel_rfl
  case hQ49 => exact fun _ _ _ h => h
  case hS49 => assumption
  case hy49 =>
    refine Or.inl ⟨by kernel_rfl, ?_⟩
    intro w' hSw
    (try dsimp only at hSw)
    go_simp
    (try rfl)
  (try simp only [List.getElem_toArray, List.getElem_cons_zero, Act.put, List.setIfInBounds_toArray, List.set_cons_zero, List.set_cons_succ])
  refine wpAnyH_take (i := 2) (oi := ?o50) (v := ?v50) ?hi50 ?hs50 ?hf50 ?hr50 ?hQ50 ?hy50 ?hS50 ?rest50
  case hi50 => rfl
  case hs50 => kernel_rfl
  case hf50 => kernel_rfl
  case hr50 => kernel_rfl
  case hQ50 => exact fun _ _ _ h => h
  case hS50 => assumption
  case hy50 =>
    refine Or.inl ⟨by kernel_rfl, ?_⟩
    intro w' hSw
    (try dsimp only at hSw)
    go_simp
    (try rfl)
  (try simp only [List.getElem_toArray, List.getElem_cons_succ, List.getElem_cons_zero, Act.put, List.setIfInBounds_toArray, List.set_cons_zero, List.set_cons_succ])
  refine wpAnyH_take (i := 6) (oi := ?o51) (v := ?v51) ?hi51 ?hs51 ?hf51 ?hr51 ?hQ51 ?hy51 ?hS51 ?rest51
  case hi51 => rfl
  case hs51 => kernel_rfl
  case hf51 => kernel_rfl
  case hr51 => kernel_rfl
  case hQ51 => exact fun _ _ _ h => h
  case hS51 => assumption
  case hy51 =>
    refine Or.inl ⟨by kernel_rfl, ?_⟩
    intro w' hSw
    (try dsimp only at hSw)
    go_simp
    (try rfl)
  (try simp only [List.getElem_toArray, List.getElem_cons_succ, List.getElem_cons_zero, Act.put, List.setIfInBounds_toArray, List.set_cons_zero, List.set_cons_succ])
  refine wpAnyH_ready (rs := [1]) (by kernel_rfl) (by simp) ?_
  refine AllReadyH.cons rfl (fun K hK => ?_) AllReadyH.nil
  go_simp
  refine (specLeastB _ 3 _ rfl).mono ?_
  rintro e w5 ⟨⟨rfl, hc5⟩, hB5⟩
  refine hK.out _ _ ?_ (fun hHeld => ?_)
  · exact bt hHeld hB5
  clear hK K
  (try simp only [List.getElem_toArray, List.getElem_cons_succ, List.getElem_cons_zero, Act.put, List.setIfInBounds_toArray, List.set_cons_zero, List.set_cons_succ])
  refine wpAnyH_weaken (S' := fun w' => Below wq.heap.size wq w' ∧ w'.cell? ⟨wq.heap.size, 3, none⟩ = some (.int .i64 1)) (fun _ h => h.1) _ _ _ _ ?_
  have hH1 : (fun w' => Below wq.heap.size wq w' ∧ w'.cell? ⟨wq.heap.size, 3, none⟩ = some (.int .i64 1)) w5 := ⟨hHeld, hc5⟩
  clear hHeld
  refine wpAnyH_take (i := 3) (oi := ?o52) (v := ?v52) ?hi52 ?hs52 ?hf52 ?hr52 ?hQ52 ?hy52 ?hS52 ?rest52
  case hi52 => rfl
  case hs52 => kernel_rfl
  case hf52 => kernel_rfl
  case hr52 => kernel_rfl
  case hQ52 => exact fun _ _ _ h => h
  case hS52 => assumption
  case hy52 =>
    refine Or.inl ⟨by kernel_rfl, ?_⟩
    intro w' hSw
    (try dsimp only at hSw)
    go_simp
    (try rfl)
  (try simp only [List.getElem_toArray, List.getElem_cons_succ, List.getElem_cons_zero, Act.put, List.setIfInBounds_toArray, List.set_cons_zero, List.set_cons_succ])
  refine wpAnyH_take (i := 4) (oi := ?o53) (v := ?v53) ?hi53 ?hs53 ?hf53 ?hr53 ?hQ53 ?hy53 ?hS53 ?rest53
  case hi53 => rfl
  case hs53 => kernel_rfl
  case hf53 => kernel_rfl
  case hr53 => kernel_rfl
  case hQ53 => exact fun _ _ _ h => h
  case hS53 => assumption
  case hy53 =>
    refine Or.inl ⟨by kernel_rfl, ?_⟩
    intro w' hSw
    (try dsimp only at hSw)
    go_simp
    (try rfl)
  (try simp only [List.getElem_toArray, List.getElem_cons_succ, List.getElem_cons_zero, Act.put, List.setIfInBounds_toArray, List.set_cons_zero, List.set_cons_succ])
  refine wpAnyH_ready (rs := [5]) (by kernel_rfl) (by simp) ?_
  refine AllReadyH.cons rfl (fun K hK => ?_) AllReadyH.nil
  go_simp
  refine (specMostB _ 3 _ rfl).mono ?_
  rintro e w6 ⟨⟨rfl, hc6⟩, hB6⟩
  refine hK.out _ _ ?_ (fun hHeld => ?_)
  · exact ⟨bt hH1.1 hB6, cell_keepX hc5 hB6⟩
  clear hK K
  (try simp only [List.getElem_toArray, List.getElem_cons_succ, List.getElem_cons_zero, Act.put, List.setIfInBounds_toArray, List.set_cons_zero, List.set_cons_succ])
  refine wpAnyH_weaken (S' := fun w' => (Below wq.heap.size wq w' ∧ w'.cell? ⟨wq.heap.size, 3, none⟩ = some (.int .i64 1)) ∧ w'.cell? ⟨w5.heap.size, 3, none⟩ = some (.int .i64 100)) (fun _ h => h.1) _ _ _ _ ?_
  have hH2 : (fun w' => (Below wq.heap.size wq w' ∧ w'.cell? ⟨wq.heap.size, 3, none⟩ = some (.int .i64 1)) ∧ w'.cell? ⟨w5.heap.size, 3, none⟩ = some (.int .i64 100)) w6 := ⟨hHeld, hc6⟩
  clear hHeld hH1
  refine wpAnyH_take (i := 7) (oi := ?o54) (v := ?v54) ?hi54 ?hs54 ?hf54 ?hr54 ?hQ54 ?hy54 ?hS54 ?rest54
  case hi54 => rfl
  case hs54 => kernel_rfl
  case hf54 => kernel_rfl
  case hr54 => kernel_rfl
  case hQ54 => exact fun _ _ _ h => h
  case hS54 => assumption
  case hy54 =>
    refine Or.inl ⟨by kernel_rfl, ?_⟩
    intro w' hSw
    (try dsimp only at hSw)
    go_simp
    (try rfl)
  (try simp only [List.getElem_toArray, List.getElem_cons_succ, List.getElem_cons_zero, Act.put, List.setIfInBounds_toArray, List.set_cons_zero, List.set_cons_succ])
  refine wpAnyH_take (i := 8) (oi := ?o55) (v := ?v55) ?hi55 ?hs55 ?hf55 ?hr55 ?hQ55 ?hy55 ?hS55 ?rest55
  case hi55 => rfl
  case hs55 => kernel_rfl
  case hf55 => kernel_rfl
  case hr55 => kernel_rfl
  case hQ55 => exact fun _ _ _ h => h
  case hS55 => assumption
  case hy55 =>
    refine Or.inl ⟨by kernel_rfl, ?_⟩
    intro w' hSw
    (try dsimp only at hSw)
    go_simp
    (try rfl)
  (try simp only [List.getElem_toArray, List.getElem_cons_succ, List.getElem_cons_zero, Act.put, List.setIfInBounds_toArray, List.set_cons_zero, List.set_cons_succ])
  refine wpAnyH_ready (rs := [9]) (by kernel_rfl) (by simp) ?_
  refine AllReadyH.cons rfl (fun K hK => ?_) AllReadyH.nil
  go_simp
  refine (specIn8 _ _ _ _).mono ?_
  rintro e w7 ⟨rfl, rfl⟩
  rw [HI.out]
  refine hK.out _ _ ?_ (fun hHeld => ?_)
  · exact hH2
  clear hK K
  (try simp only [List.getElem_toArray, List.getElem_cons_succ, List.getElem_cons_zero, Act.put, List.setIfInBounds_toArray, List.set_cons_zero, List.set_cons_succ])
  refine wpAnyH_take (i := 10) (oi := ?o56) (v := ?v56) ?hi56 ?hs56 ?hf56 ?hr56 ?hQ56 ?hy56 ?hS56 ?rest56
  case hi56 => rfl
  case hs56 => kernel_rfl
  case hf56 => kernel_rfl
  case hr56 => kernel_rfl
  case hQ56 => exact fun _ _ _ h => h
  case hS56 => assumption
  case hy56 =>
    refine Or.inl ⟨by kernel_rfl, ?_⟩
    intro w' hSw
    (try dsimp only at hSw)
    go_simp
    (try rfl)
  (try simp only [List.getElem_toArray, List.getElem_cons_succ, List.getElem_cons_zero, Act.put, List.setIfInBounds_toArray, List.set_cons_zero, List.set_cons_succ])
  refine wpAnyH_done (by kernel_rfl) ?_ _
  refine NoPanic.normal ?_
  have hH2 := hHeld.1.1
  have xa := blk_next HYA.out hH2
  have xb := blk_next HYB.out hH2
  have ca0 := cell_blk xa 0
  have fa0 := free_blk xa 0
  have ca1 := cell_blk xa 1
  have fa1 := free_blk xa 1
  have ca2 := cell_blk xa 2
  have fa2 := free_blk xa 2
  have ca3 := cell_blk xa 3
  have fa3 := free_blk xa 3
  have ca4 := cell_blk xa 4
  have fa4 := free_blk xa 4
  have ca5 := cell_blk xa 5
  have fa5 := free_blk xa 5
  have ca6 := cell_blk xa 6
  have fa6 := free_blk xa 6
  have ca7 := cell_blk xa 7
  have fa7 := free_blk xa 7
  have la := blk_lt xa
  have cb0 := cell_blk xb 0
  have fb0 := free_blk xb 0
  have cb1 := cell_blk xb 1
  have fb1 := free_blk xb 1
  have cb2 := cell_blk xb 2
  have fb2 := free_blk xb 2
  have cb3 := cell_blk xb 3
  have fb3 := free_blk xb 3
  have cb4 := cell_blk xb 4
  have fb4 := free_blk xb 4
  have cb5 := cell_blk xb 5
  have fb5 := free_blk xb 5
  have cb6 := cell_blk xb 6
  have fb6 := free_blk xb 6
  have cb7 := cell_blk xb 7
  have fb7 := free_blk xb 7
  have lb := blk_lt xb
  replace HT := Lib.hid (bt HT.out hH2)
  clear xa xb hHeld
  go_wp2_with fail
  (try simp only [Exit.inBlock, Exit.then])
  refine bodyPost_ret (v := .tuple #[.agg #[.int .i64 C.r, .int .i64 C.d, .int .i64 C.b, .int .i64 z, .int .i64 C.m, .int .i64 C.n, .int .i64 C.e, .slice a n c], .int .i64 0]) ?_ rfl ⟨rfl, ?_⟩
  · rw [results_cell_tmp rfl]
    go_simp
  · iterate 8 refine Below.setCell ?_ (by simp <;> omega) _
    exact HT.out
set_option maxRecDepth 100000 in
set_option maxHeartbeats 2000000 in
theorem specLay_n3n (C : Cfg) (a : Option Addr) (n c : Nat) (s : ByteArray) (z : Int) (_z0 : 0 ≤ z) (_z1 : z ≤ 999999999) (hz : Hid (numV s.data.toList = some z)) (HI : Hid (inZ z 1 100 = false)) (w : World) :
    Calls Tryz.prog 39 #[.agg #[.int .i64 C.r, .int .i64 C.d, .int .i64 C.b, .int .i64 C.l, .int .i64 C.m, .int .i64 C.n, .int .i64 C.e, .slice a n c], .int .i64 3, .string s] w fun e w' => e = .returned (.tuple #[.agg #[.int .i64 C.r, .int .i64 C.d, .int .i64 C.b, .int .i64 z, .int .i64 C.m, .int .i64 C.n, .int .i64 C.e, .slice a n c], .int .i64 13]) ∧ Below w.heap.size w w' := by
  have HZ := Lib.hid (numE_some hz.out)
  go_enter Tryz.func39, Tryz.ntmps39
  go_wp2_with fail
  refine (specNumberE s _).mono ?_
  rintro e w1 ⟨rfl, hB1⟩
  rw [HZ.out]
  have xa := blk_next (blk_alloc (alloc_blk w #[.int .i64 C.r, .int .i64 C.d, .int .i64 C.b, .int .i64 C.l, .int .i64 C.m, .int .i64 C.n, .int .i64 C.e, .slice a n c] 26) (.cells #[.int .i64 0, .int .i64 0, .int .i64 0, .int .i64 0, .int .i64 0, .int .i64 0, .int .i64 0, .slice none 0 0] 26)) hB1
  have xb := blk_next (alloc_blk (w.alloc (.cells #[.int .i64 C.r, .int .i64 C.d, .int .i64 C.b, .int .i64 C.l, .int .i64 C.m, .int .i64 C.n, .int .i64 C.e, .slice a n c] 26)) #[.int .i64 0, .int .i64 0, .int .i64 0, .int .i64 0, .int .i64 0, .int .i64 0, .int .i64 0, .slice none 0 0] 26) hB1
  have B01 := bt (bt (below_al w (.cells #[.int .i64 C.r, .int .i64 C.d, .int .i64 C.b, .int .i64 C.l, .int .i64 C.m, .int .i64 C.n, .int .i64 C.e, .slice a n c] 26)) (below_al _ (.cells #[.int .i64 0, .int .i64 0, .int .i64 0, .int .i64 0, .int .i64 0, .int .i64 0, .int .i64 0, .slice none 0 0] 26))) hB1
  simp only [size_alloc] at xb
  have ca0 := cell_blk xa 0
  have fa0 := free_blk xa 0
  have ca1 := cell_blk xa 1
  have fa1 := free_blk xa 1
  have ca2 := cell_blk xa 2
  have fa2 := free_blk xa 2
  have ca3 := cell_blk xa 3
  have fa3 := free_blk xa 3
  have ca4 := cell_blk xa 4
  have fa4 := free_blk xa 4
  have ca5 := cell_blk xa 5
  have fa5 := free_blk xa 5
  have ca6 := cell_blk xa 6
  have fa6 := free_blk xa 6
  have ca7 := cell_blk xa 7
  have fa7 := free_blk xa 7
  have la := blk_lt xa
  have cb0 := cell_blk xb 0
  have fb0 := free_blk xb 0
  have cb1 := cell_blk xb 1
  have fb1 := free_blk xb 1
  have cb2 := cell_blk xb 2
  have fb2 := free_blk xb 2
  have cb3 := cell_blk xb 3
  have fb3 := free_blk xb 3
  have cb4 := cell_blk xb 4
  have fb4 := free_blk xb 4
  have cb5 := cell_blk xb 5
  have fb5 := free_blk xb 5
  have cb6 := cell_blk xb 6
  have fb6 := free_blk xb 6
  have cb7 := cell_blk xb 7
  have fb7 := free_blk xb 7
  have lb := blk_lt xb
  have HT : Hid (Below w.heap.size w (w1.setCell ⟨w.heap.size, 3, none⟩ (.int .i64 z))) := Lib.hid (Below.setCell B01 (by simp) _)
  have ya := heap_setCell_same w1 w.heap.size 3 _ _ (.int .i64 z) xa
  have yb := (heap_setCell_other w1 ⟨w.heap.size, 3, none⟩ (w.heap.size + 1) (.int .i64 z) (by simp)).trans xb
  simp only [List.setIfInBounds_toArray, List.set_cons_zero, List.set_cons_succ] at ya
  have HYA := Lib.hid ya
  have HYB := Lib.hid yb
  clear B01 hB1 xa xb ya yb
  go_wp2_with fail
  clear ca0 ca1 ca2 ca3 ca4 ca5 ca6 ca7 fa0 fa1 fa2 fa3 fa4 fa5 fa6 fa7 la
  clear cb0 cb1 cb2 cb3 cb4 cb5 cb6 cb7 fb0 fb1 fb2 fb3 fb4 fb5 fb6 fb7 lb
  generalize w1.setCell ⟨w.heap.size, 3, none⟩ (.int .i64 z) = wq at HT HYA HYB ⊢
  have hS0 : (fun w' => Below wq.heap.size wq w') wq.drew := (Below.refl _ _).drew
  refine wp_region_noPanic ?_
  refine wp_region_held_drew (S := (fun w' => Below wq.heap.size wq w')) (by kernel_rfl) hS0 (fun hHeld => ?_)
  clear hS0
  refine wpAnyH_take (i := 0) (oi := ?o57) (v := ?v57) ?hi57 ?hs57 ?hf57 ?hr57 ?hQ57 ?hy57 ?hS57 ?rest57
  case hi57 => rfl
  case hs57 => kernel_rfl
  case hf57 => kernel_rfl
  case hr57 => kernel_rfl
  case hQ57 => exact fun _ _ _ h => h
  case hS57 => assumption
  case hy57 =>
    refine Or.inl ⟨by kernel_rfl, ?_⟩
    intro w' hSw
    (try dsimp only at hSw)
    go_simp
    (try rfl)
  (try simp only [List.getElem_toArray, List.getElem_cons_zero, Act.put, List.setIfInBounds_toArray, List.set_cons_zero, List.set_cons_succ])
  refine wpAnyH_take (i := 2) (oi := ?o58) (v := ?v58) ?hi58 ?hs58 ?hf58 ?hr58 ?hQ58 ?hy58 ?hS58 ?rest58
  case hi58 => rfl
  case hs58 => kernel_rfl
  case hf58 => kernel_rfl
  case hr58 => kernel_rfl
  case hQ58 => exact fun _ _ _ h => h
  case hS58 => assumption
  case hy58 =>
    refine Or.inl ⟨by kernel_rfl, ?_⟩
    intro w' hSw
    (try dsimp only at hSw)
    go_simp
    (try rfl)
  (try simp only [List.getElem_toArray, List.getElem_cons_succ, List.getElem_cons_zero, Act.put, List.setIfInBounds_toArray, List.set_cons_zero, List.set_cons_succ])
  refine wpAnyH_take (i := 6) (oi := ?o59) (v := ?v59) ?hi59 ?hs59 ?hf59 ?hr59 ?hQ59 ?hy59 ?hS59 ?rest59
  case hi59 => rfl
  case hs59 => kernel_rfl
  case hf59 => kernel_rfl
  case hr59 => kernel_rfl
  case hQ59 => exact fun _ _ _ h => h
  case hS59 => assumption
  case hy59 =>
    refine Or.inl ⟨by kernel_rfl, ?_⟩
    intro w' hSw
    (try dsimp only at hSw)
    go_simp
    (try rfl)
  (try simp only [List.getElem_toArray, List.getElem_cons_succ, List.getElem_cons_zero, Act.put, List.setIfInBounds_toArray, List.set_cons_zero, List.set_cons_succ])
  refine wpAnyH_ready (rs := [1]) (by kernel_rfl) (by simp) ?_
  refine AllReadyH.cons rfl (fun K hK => ?_) AllReadyH.nil
  go_simp
  refine (specLeastB _ 3 _ rfl).mono ?_
  rintro e w5 ⟨⟨rfl, hc5⟩, hB5⟩
  refine hK.out _ _ ?_ (fun hHeld => ?_)
  · exact bt hHeld hB5
  clear hK K
  (try simp only [List.getElem_toArray, List.getElem_cons_succ, List.getElem_cons_zero, Act.put, List.setIfInBounds_toArray, List.set_cons_zero, List.set_cons_succ])
  refine wpAnyH_weaken (S' := fun w' => Below wq.heap.size wq w' ∧ w'.cell? ⟨wq.heap.size, 3, none⟩ = some (.int .i64 1)) (fun _ h => h.1) _ _ _ _ ?_
  have hH1 : (fun w' => Below wq.heap.size wq w' ∧ w'.cell? ⟨wq.heap.size, 3, none⟩ = some (.int .i64 1)) w5 := ⟨hHeld, hc5⟩
  clear hHeld
  refine wpAnyH_take (i := 3) (oi := ?o60) (v := ?v60) ?hi60 ?hs60 ?hf60 ?hr60 ?hQ60 ?hy60 ?hS60 ?rest60
  case hi60 => rfl
  case hs60 => kernel_rfl
  case hf60 => kernel_rfl
  case hr60 => kernel_rfl
  case hQ60 => exact fun _ _ _ h => h
  case hS60 => assumption
  case hy60 =>
    refine Or.inl ⟨by kernel_rfl, ?_⟩
    intro w' hSw
    (try dsimp only at hSw)
    go_simp
    (try rfl)
  (try simp only [List.getElem_toArray, List.getElem_cons_succ, List.getElem_cons_zero, Act.put, List.setIfInBounds_toArray, List.set_cons_zero, List.set_cons_succ])
  refine wpAnyH_take (i := 4) (oi := ?o61) (v := ?v61) ?hi61 ?hs61 ?hf61 ?hr61 ?hQ61 ?hy61 ?hS61 ?rest61
  case hi61 => rfl
  case hs61 => kernel_rfl
  case hf61 => kernel_rfl
  case hr61 => kernel_rfl
  case hQ61 => exact fun _ _ _ h => h
  case hS61 => assumption
  case hy61 =>
    refine Or.inl ⟨by kernel_rfl, ?_⟩
    intro w' hSw
    (try dsimp only at hSw)
    go_simp
    (try rfl)
  (try simp only [List.getElem_toArray, List.getElem_cons_succ, List.getElem_cons_zero, Act.put, List.setIfInBounds_toArray, List.set_cons_zero, List.set_cons_succ])
  refine wpAnyH_ready (rs := [5]) (by kernel_rfl) (by simp) ?_
  refine AllReadyH.cons rfl (fun K hK => ?_) AllReadyH.nil
  go_simp
  refine (specMostB _ 3 _ rfl).mono ?_
  rintro e w6 ⟨⟨rfl, hc6⟩, hB6⟩
  refine hK.out _ _ ?_ (fun hHeld => ?_)
  · exact ⟨bt hH1.1 hB6, cell_keepX hc5 hB6⟩
  clear hK K
  (try simp only [List.getElem_toArray, List.getElem_cons_succ, List.getElem_cons_zero, Act.put, List.setIfInBounds_toArray, List.set_cons_zero, List.set_cons_succ])
  refine wpAnyH_weaken (S' := fun w' => (Below wq.heap.size wq w' ∧ w'.cell? ⟨wq.heap.size, 3, none⟩ = some (.int .i64 1)) ∧ w'.cell? ⟨w5.heap.size, 3, none⟩ = some (.int .i64 100)) (fun _ h => h.1) _ _ _ _ ?_
  have hH2 : (fun w' => (Below wq.heap.size wq w' ∧ w'.cell? ⟨wq.heap.size, 3, none⟩ = some (.int .i64 1)) ∧ w'.cell? ⟨w5.heap.size, 3, none⟩ = some (.int .i64 100)) w6 := ⟨hHeld, hc6⟩
  clear hHeld hH1
  refine wpAnyH_take (i := 7) (oi := ?o62) (v := ?v62) ?hi62 ?hs62 ?hf62 ?hr62 ?hQ62 ?hy62 ?hS62 ?rest62
  case hi62 => rfl
  case hs62 => kernel_rfl
  case hf62 => kernel_rfl
  case hr62 => kernel_rfl
  case hQ62 => exact fun _ _ _ h => h
  case hS62 => assumption
  case hy62 =>
    refine Or.inl ⟨by kernel_rfl, ?_⟩
    intro w' hSw
    (try dsimp only at hSw)
    go_simp
    (try rfl)
  (try simp only [List.getElem_toArray, List.getElem_cons_succ, List.getElem_cons_zero, Act.put, List.setIfInBounds_toArray, List.set_cons_zero, List.set_cons_succ])
  refine wpAnyH_take (i := 8) (oi := ?o63) (v := ?v63) ?hi63 ?hs63 ?hf63 ?hr63 ?hQ63 ?hy63 ?hS63 ?rest63
  case hi63 => rfl
  case hs63 => kernel_rfl
  case hf63 => kernel_rfl
  case hr63 => kernel_rfl
  case hQ63 => exact fun _ _ _ h => h
  case hS63 => assumption
  case hy63 =>
    refine Or.inl ⟨by kernel_rfl, ?_⟩
    intro w' hSw
    (try dsimp only at hSw)
    go_simp
    (try rfl)
  (try simp only [List.getElem_toArray, List.getElem_cons_succ, List.getElem_cons_zero, Act.put, List.setIfInBounds_toArray, List.set_cons_zero, List.set_cons_succ])
  refine wpAnyH_ready (rs := [9]) (by kernel_rfl) (by simp) ?_
  refine AllReadyH.cons rfl (fun K hK => ?_) AllReadyH.nil
  go_simp
  refine (specIn8 _ _ _ _).mono ?_
  rintro e w7 ⟨rfl, rfl⟩
  rw [HI.out]
  refine hK.out _ _ ?_ (fun hHeld => ?_)
  · exact hH2
  clear hK K
  (try simp only [List.getElem_toArray, List.getElem_cons_succ, List.getElem_cons_zero, Act.put, List.setIfInBounds_toArray, List.set_cons_zero, List.set_cons_succ])
  refine wpAnyH_take (i := 10) (oi := ?o64) (v := ?v64) ?hi64 ?hs64 ?hf64 ?hr64 ?hQ64 ?hy64 ?hS64 ?rest64
  case hi64 => rfl
  case hs64 => kernel_rfl
  case hf64 => kernel_rfl
  case hr64 => kernel_rfl
  case hQ64 => exact fun _ _ _ h => h
  case hS64 => assumption
  case hy64 =>
    refine Or.inl ⟨by kernel_rfl, ?_⟩
    intro w' hSw
    (try dsimp only at hSw)
    go_simp
    (try rfl)
  (try simp only [List.getElem_toArray, List.getElem_cons_succ, List.getElem_cons_zero, Act.put, List.setIfInBounds_toArray, List.set_cons_zero, List.set_cons_succ])
  refine wpAnyH_done (by kernel_rfl) ?_ _
  refine NoPanic.normal ?_
  have hH2 := hHeld.1.1
  have xa := blk_next HYA.out hH2
  have xb := blk_next HYB.out hH2
  have ca0 := cell_blk xa 0
  have fa0 := free_blk xa 0
  have ca1 := cell_blk xa 1
  have fa1 := free_blk xa 1
  have ca2 := cell_blk xa 2
  have fa2 := free_blk xa 2
  have ca3 := cell_blk xa 3
  have fa3 := free_blk xa 3
  have ca4 := cell_blk xa 4
  have fa4 := free_blk xa 4
  have ca5 := cell_blk xa 5
  have fa5 := free_blk xa 5
  have ca6 := cell_blk xa 6
  have fa6 := free_blk xa 6
  have ca7 := cell_blk xa 7
  have fa7 := free_blk xa 7
  have la := blk_lt xa
  have cb0 := cell_blk xb 0
  have fb0 := free_blk xb 0
  have cb1 := cell_blk xb 1
  have fb1 := free_blk xb 1
  have cb2 := cell_blk xb 2
  have fb2 := free_blk xb 2
  have cb3 := cell_blk xb 3
  have fb3 := free_blk xb 3
  have cb4 := cell_blk xb 4
  have fb4 := free_blk xb 4
  have cb5 := cell_blk xb 5
  have fb5 := free_blk xb 5
  have cb6 := cell_blk xb 6
  have fb6 := free_blk xb 6
  have cb7 := cell_blk xb 7
  have fb7 := free_blk xb 7
  have lb := blk_lt xb
  replace HT := Lib.hid (bt HT.out hH2)
  clear xa xb hHeld
  go_wp2_with fail
  (try simp only [Exit.inBlock, Exit.then])
  refine bodyPost_ret (v := .tuple #[.agg #[.int .i64 C.r, .int .i64 C.d, .int .i64 C.b, .int .i64 z, .int .i64 C.m, .int .i64 C.n, .int .i64 C.e, .slice a n c], .int .i64 13]) ?_ rfl ⟨rfl, ?_⟩
  · rw [results_cell_tmp rfl]
    go_simp
  · iterate 8 refine Below.setCell ?_ (by simp <;> omega) _
    exact HT.out
set_option maxRecDepth 100000 in
set_option maxHeartbeats 2000000 in
theorem specLay_n4y (C : Cfg) (a : Option Addr) (n c : Nat) (s : ByteArray) (z : Int) (_z0 : 0 ≤ z) (_z1 : z ≤ 999999999) (hz : Hid (numV s.data.toList = some z)) (HI : Hid (inZ z 1 20 = true)) (w : World) :
    Calls Tryz.prog 39 #[.agg #[.int .i64 C.r, .int .i64 C.d, .int .i64 C.b, .int .i64 C.l, .int .i64 C.m, .int .i64 C.n, .int .i64 C.e, .slice a n c], .int .i64 4, .string s] w fun e w' => e = .returned (.tuple #[.agg #[.int .i64 C.r, .int .i64 C.d, .int .i64 C.b, .int .i64 C.l, .int .i64 z, .int .i64 C.n, .int .i64 C.e, .slice a n c], .int .i64 0]) ∧ Below w.heap.size w w' := by
  have HZ := Lib.hid (numE_some hz.out)
  go_enter Tryz.func39, Tryz.ntmps39
  go_wp2_with fail
  refine (specNumberE s _).mono ?_
  rintro e w1 ⟨rfl, hB1⟩
  rw [HZ.out]
  have xa := blk_next (blk_alloc (alloc_blk w #[.int .i64 C.r, .int .i64 C.d, .int .i64 C.b, .int .i64 C.l, .int .i64 C.m, .int .i64 C.n, .int .i64 C.e, .slice a n c] 26) (.cells #[.int .i64 0, .int .i64 0, .int .i64 0, .int .i64 0, .int .i64 0, .int .i64 0, .int .i64 0, .slice none 0 0] 26)) hB1
  have xb := blk_next (alloc_blk (w.alloc (.cells #[.int .i64 C.r, .int .i64 C.d, .int .i64 C.b, .int .i64 C.l, .int .i64 C.m, .int .i64 C.n, .int .i64 C.e, .slice a n c] 26)) #[.int .i64 0, .int .i64 0, .int .i64 0, .int .i64 0, .int .i64 0, .int .i64 0, .int .i64 0, .slice none 0 0] 26) hB1
  have B01 := bt (bt (below_al w (.cells #[.int .i64 C.r, .int .i64 C.d, .int .i64 C.b, .int .i64 C.l, .int .i64 C.m, .int .i64 C.n, .int .i64 C.e, .slice a n c] 26)) (below_al _ (.cells #[.int .i64 0, .int .i64 0, .int .i64 0, .int .i64 0, .int .i64 0, .int .i64 0, .int .i64 0, .slice none 0 0] 26))) hB1
  simp only [size_alloc] at xb
  have ca0 := cell_blk xa 0
  have fa0 := free_blk xa 0
  have ca1 := cell_blk xa 1
  have fa1 := free_blk xa 1
  have ca2 := cell_blk xa 2
  have fa2 := free_blk xa 2
  have ca3 := cell_blk xa 3
  have fa3 := free_blk xa 3
  have ca4 := cell_blk xa 4
  have fa4 := free_blk xa 4
  have ca5 := cell_blk xa 5
  have fa5 := free_blk xa 5
  have ca6 := cell_blk xa 6
  have fa6 := free_blk xa 6
  have ca7 := cell_blk xa 7
  have fa7 := free_blk xa 7
  have la := blk_lt xa
  have cb0 := cell_blk xb 0
  have fb0 := free_blk xb 0
  have cb1 := cell_blk xb 1
  have fb1 := free_blk xb 1
  have cb2 := cell_blk xb 2
  have fb2 := free_blk xb 2
  have cb3 := cell_blk xb 3
  have fb3 := free_blk xb 3
  have cb4 := cell_blk xb 4
  have fb4 := free_blk xb 4
  have cb5 := cell_blk xb 5
  have fb5 := free_blk xb 5
  have cb6 := cell_blk xb 6
  have fb6 := free_blk xb 6
  have cb7 := cell_blk xb 7
  have fb7 := free_blk xb 7
  have lb := blk_lt xb
  have HT : Hid (Below w.heap.size w (w1.setCell ⟨w.heap.size, 4, none⟩ (.int .i64 z))) := Lib.hid (Below.setCell B01 (by simp) _)
  have ya := heap_setCell_same w1 w.heap.size 4 _ _ (.int .i64 z) xa
  have yb := (heap_setCell_other w1 ⟨w.heap.size, 4, none⟩ (w.heap.size + 1) (.int .i64 z) (by simp)).trans xb
  simp only [List.setIfInBounds_toArray, List.set_cons_zero, List.set_cons_succ] at ya
  have HYA := Lib.hid ya
  have HYB := Lib.hid yb
  clear B01 hB1 xa xb ya yb
  go_wp2_with fail
  clear ca0 ca1 ca2 ca3 ca4 ca5 ca6 ca7 fa0 fa1 fa2 fa3 fa4 fa5 fa6 fa7 la
  clear cb0 cb1 cb2 cb3 cb4 cb5 cb6 cb7 fb0 fb1 fb2 fb3 fb4 fb5 fb6 fb7 lb
  generalize w1.setCell ⟨w.heap.size, 4, none⟩ (.int .i64 z) = wq at HT HYA HYB ⊢
  have hS0 : (fun w' => Below wq.heap.size wq w') wq.drew := (Below.refl _ _).drew
  refine wp_region_noPanic ?_
  refine wp_region_held_drew (S := (fun w' => Below wq.heap.size wq w')) (by kernel_rfl) hS0 (fun hHeld => ?_)
  clear hS0
  refine wpAnyH_take (i := 0) (oi := ?o65) (v := ?v65) ?hi65 ?hs65 ?hf65 ?hr65 ?hQ65 ?hy65 ?hS65 ?rest65
  case hi65 => rfl
  case hs65 => kernel_rfl
  case hf65 => kernel_rfl
  case hr65 => kernel_rfl
  case hQ65 => exact fun _ _ _ h => h
  case hS65 => assumption
  case hy65 =>
    refine Or.inl ⟨by kernel_rfl, ?_⟩
    intro w' hSw
    (try dsimp only at hSw)
    go_simp
    (try rfl)
  (try simp only [List.getElem_toArray, List.getElem_cons_zero, Act.put, List.setIfInBounds_toArray, List.set_cons_zero, List.set_cons_succ])
  refine wpAnyH_take (i := 2) (oi := ?o66) (v := ?v66) ?hi66 ?hs66 ?hf66 ?hr66 ?hQ66 ?hy66 ?hS66 ?rest66
  case hi66 => rfl
  case hs66 => kernel_rfl
  case hf66 => kernel_rfl
  case hr66 => kernel_rfl
  case hQ66 => exact fun _ _ _ h => h
  case hS66 => assumption
  case hy66 =>
    refine Or.inl ⟨by kernel_rfl, ?_⟩
    intro w' hSw
    (try dsimp only at hSw)
    go_simp
    (try rfl)
  (try simp only [List.getElem_toArray, List.getElem_cons_succ, List.getElem_cons_zero, Act.put, List.setIfInBounds_toArray, List.set_cons_zero, List.set_cons_succ])
  refine wpAnyH_take (i := 6) (oi := ?o67) (v := ?v67) ?hi67 ?hs67 ?hf67 ?hr67 ?hQ67 ?hy67 ?hS67 ?rest67
  case hi67 => rfl
  case hs67 => kernel_rfl
  case hf67 => kernel_rfl
  case hr67 => kernel_rfl
  case hQ67 => exact fun _ _ _ h => h
  case hS67 => assumption
  case hy67 =>
    refine Or.inl ⟨by kernel_rfl, ?_⟩
    intro w' hSw
    (try dsimp only at hSw)
    go_simp
    (try rfl)
  (try simp only [List.getElem_toArray, List.getElem_cons_succ, List.getElem_cons_zero, Act.put, List.setIfInBounds_toArray, List.set_cons_zero, List.set_cons_succ])
  refine wpAnyH_ready (rs := [1]) (by kernel_rfl) (by simp) ?_
  refine AllReadyH.cons rfl (fun K hK => ?_) AllReadyH.nil
  go_simp
  refine (specLeastB _ 4 _ rfl).mono ?_
  rintro e w5 ⟨⟨rfl, hc5⟩, hB5⟩
  refine hK.out _ _ ?_ (fun hHeld => ?_)
  · exact bt hHeld hB5
  clear hK K
  (try simp only [List.getElem_toArray, List.getElem_cons_succ, List.getElem_cons_zero, Act.put, List.setIfInBounds_toArray, List.set_cons_zero, List.set_cons_succ])
  refine wpAnyH_weaken (S' := fun w' => Below wq.heap.size wq w' ∧ w'.cell? ⟨wq.heap.size, 4, none⟩ = some (.int .i64 1)) (fun _ h => h.1) _ _ _ _ ?_
  have hH1 : (fun w' => Below wq.heap.size wq w' ∧ w'.cell? ⟨wq.heap.size, 4, none⟩ = some (.int .i64 1)) w5 := ⟨hHeld, hc5⟩
  clear hHeld
  refine wpAnyH_take (i := 3) (oi := ?o68) (v := ?v68) ?hi68 ?hs68 ?hf68 ?hr68 ?hQ68 ?hy68 ?hS68 ?rest68
  case hi68 => rfl
  case hs68 => kernel_rfl
  case hf68 => kernel_rfl
  case hr68 => kernel_rfl
  case hQ68 => exact fun _ _ _ h => h
  case hS68 => assumption
  case hy68 =>
    refine Or.inl ⟨by kernel_rfl, ?_⟩
    intro w' hSw
    (try dsimp only at hSw)
    go_simp
    (try rfl)
  (try simp only [List.getElem_toArray, List.getElem_cons_succ, List.getElem_cons_zero, Act.put, List.setIfInBounds_toArray, List.set_cons_zero, List.set_cons_succ])
  refine wpAnyH_take (i := 4) (oi := ?o69) (v := ?v69) ?hi69 ?hs69 ?hf69 ?hr69 ?hQ69 ?hy69 ?hS69 ?rest69
  case hi69 => rfl
  case hs69 => kernel_rfl
  case hf69 => kernel_rfl
  case hr69 => kernel_rfl
  case hQ69 => exact fun _ _ _ h => h
  case hS69 => assumption
  case hy69 =>
    refine Or.inl ⟨by kernel_rfl, ?_⟩
    intro w' hSw
    (try dsimp only at hSw)
    go_simp
    (try rfl)
  (try simp only [List.getElem_toArray, List.getElem_cons_succ, List.getElem_cons_zero, Act.put, List.setIfInBounds_toArray, List.set_cons_zero, List.set_cons_succ])
  refine wpAnyH_ready (rs := [5]) (by kernel_rfl) (by simp) ?_
  refine AllReadyH.cons rfl (fun K hK => ?_) AllReadyH.nil
  go_simp
  refine (specMostB _ 4 _ rfl).mono ?_
  rintro e w6 ⟨⟨rfl, hc6⟩, hB6⟩
  refine hK.out _ _ ?_ (fun hHeld => ?_)
  · exact ⟨bt hH1.1 hB6, cell_keepX hc5 hB6⟩
  clear hK K
  (try simp only [List.getElem_toArray, List.getElem_cons_succ, List.getElem_cons_zero, Act.put, List.setIfInBounds_toArray, List.set_cons_zero, List.set_cons_succ])
  refine wpAnyH_weaken (S' := fun w' => (Below wq.heap.size wq w' ∧ w'.cell? ⟨wq.heap.size, 4, none⟩ = some (.int .i64 1)) ∧ w'.cell? ⟨w5.heap.size, 4, none⟩ = some (.int .i64 20)) (fun _ h => h.1) _ _ _ _ ?_
  have hH2 : (fun w' => (Below wq.heap.size wq w' ∧ w'.cell? ⟨wq.heap.size, 4, none⟩ = some (.int .i64 1)) ∧ w'.cell? ⟨w5.heap.size, 4, none⟩ = some (.int .i64 20)) w6 := ⟨hHeld, hc6⟩
  clear hHeld hH1
  refine wpAnyH_take (i := 7) (oi := ?o70) (v := ?v70) ?hi70 ?hs70 ?hf70 ?hr70 ?hQ70 ?hy70 ?hS70 ?rest70
  case hi70 => rfl
  case hs70 => kernel_rfl
  case hf70 => kernel_rfl
  case hr70 => kernel_rfl
  case hQ70 => exact fun _ _ _ h => h
  case hS70 => assumption
  case hy70 =>
    refine Or.inl ⟨by kernel_rfl, ?_⟩
    intro w' hSw
    (try dsimp only at hSw)
    go_simp
    (try rfl)
  (try simp only [List.getElem_toArray, List.getElem_cons_succ, List.getElem_cons_zero, Act.put, List.setIfInBounds_toArray, List.set_cons_zero, List.set_cons_succ])
  refine wpAnyH_take (i := 8) (oi := ?o71) (v := ?v71) ?hi71 ?hs71 ?hf71 ?hr71 ?hQ71 ?hy71 ?hS71 ?rest71
  case hi71 => rfl
  case hs71 => kernel_rfl
  case hf71 => kernel_rfl
  case hr71 => kernel_rfl
  case hQ71 => exact fun _ _ _ h => h
  case hS71 => assumption
  case hy71 =>
    refine Or.inl ⟨by kernel_rfl, ?_⟩
    intro w' hSw
    (try dsimp only at hSw)
    go_simp
    (try rfl)
  (try simp only [List.getElem_toArray, List.getElem_cons_succ, List.getElem_cons_zero, Act.put, List.setIfInBounds_toArray, List.set_cons_zero, List.set_cons_succ])
  refine wpAnyH_ready (rs := [9]) (by kernel_rfl) (by simp) ?_
  refine AllReadyH.cons rfl (fun K hK => ?_) AllReadyH.nil
  go_simp
  refine (specIn8 _ _ _ _).mono ?_
  rintro e w7 ⟨rfl, rfl⟩
  rw [HI.out]
  refine hK.out _ _ ?_ (fun hHeld => ?_)
  · exact hH2
  clear hK K
  (try simp only [List.getElem_toArray, List.getElem_cons_succ, List.getElem_cons_zero, Act.put, List.setIfInBounds_toArray, List.set_cons_zero, List.set_cons_succ])
  refine wpAnyH_take (i := 10) (oi := ?o72) (v := ?v72) ?hi72 ?hs72 ?hf72 ?hr72 ?hQ72 ?hy72 ?hS72 ?rest72
  case hi72 => rfl
  case hs72 => kernel_rfl
  case hf72 => kernel_rfl
  case hr72 => kernel_rfl
  case hQ72 => exact fun _ _ _ h => h
  case hS72 => assumption
  case hy72 =>
    refine Or.inl ⟨by kernel_rfl, ?_⟩
    intro w' hSw
    (try dsimp only at hSw)
    go_simp
    (try rfl)
  (try simp only [List.getElem_toArray, List.getElem_cons_succ, List.getElem_cons_zero, Act.put, List.setIfInBounds_toArray, List.set_cons_zero, List.set_cons_succ])
  refine wpAnyH_done (by kernel_rfl) ?_ _
  refine NoPanic.normal ?_
  have hH2 := hHeld.1.1
  have xa := blk_next HYA.out hH2
  have xb := blk_next HYB.out hH2
  have ca0 := cell_blk xa 0
  have fa0 := free_blk xa 0
  have ca1 := cell_blk xa 1
  have fa1 := free_blk xa 1
  have ca2 := cell_blk xa 2
  have fa2 := free_blk xa 2
  have ca3 := cell_blk xa 3
  have fa3 := free_blk xa 3
  have ca4 := cell_blk xa 4
  have fa4 := free_blk xa 4
  have ca5 := cell_blk xa 5
  have fa5 := free_blk xa 5
  have ca6 := cell_blk xa 6
  have fa6 := free_blk xa 6
  have ca7 := cell_blk xa 7
  have fa7 := free_blk xa 7
  have la := blk_lt xa
  have cb0 := cell_blk xb 0
  have fb0 := free_blk xb 0
  have cb1 := cell_blk xb 1
  have fb1 := free_blk xb 1
  have cb2 := cell_blk xb 2
  have fb2 := free_blk xb 2
  have cb3 := cell_blk xb 3
  have fb3 := free_blk xb 3
  have cb4 := cell_blk xb 4
  have fb4 := free_blk xb 4
  have cb5 := cell_blk xb 5
  have fb5 := free_blk xb 5
  have cb6 := cell_blk xb 6
  have fb6 := free_blk xb 6
  have cb7 := cell_blk xb 7
  have fb7 := free_blk xb 7
  have lb := blk_lt xb
  replace HT := Lib.hid (bt HT.out hH2)
  clear xa xb hHeld
  go_wp2_with fail
  (try simp only [Exit.inBlock, Exit.then])
  refine bodyPost_ret (v := .tuple #[.agg #[.int .i64 C.r, .int .i64 C.d, .int .i64 C.b, .int .i64 C.l, .int .i64 z, .int .i64 C.n, .int .i64 C.e, .slice a n c], .int .i64 0]) ?_ rfl ⟨rfl, ?_⟩
  · rw [results_cell_tmp rfl]
    go_simp
  · iterate 8 refine Below.setCell ?_ (by simp <;> omega) _
    exact HT.out
set_option maxRecDepth 100000 in
set_option maxHeartbeats 2000000 in
theorem specLay_n4n (C : Cfg) (a : Option Addr) (n c : Nat) (s : ByteArray) (z : Int) (_z0 : 0 ≤ z) (_z1 : z ≤ 999999999) (hz : Hid (numV s.data.toList = some z)) (HI : Hid (inZ z 1 20 = false)) (w : World) :
    Calls Tryz.prog 39 #[.agg #[.int .i64 C.r, .int .i64 C.d, .int .i64 C.b, .int .i64 C.l, .int .i64 C.m, .int .i64 C.n, .int .i64 C.e, .slice a n c], .int .i64 4, .string s] w fun e w' => e = .returned (.tuple #[.agg #[.int .i64 C.r, .int .i64 C.d, .int .i64 C.b, .int .i64 C.l, .int .i64 z, .int .i64 C.n, .int .i64 C.e, .slice a n c], .int .i64 13]) ∧ Below w.heap.size w w' := by
  have HZ := Lib.hid (numE_some hz.out)
  go_enter Tryz.func39, Tryz.ntmps39
  go_wp2_with fail
  refine (specNumberE s _).mono ?_
  rintro e w1 ⟨rfl, hB1⟩
  rw [HZ.out]
  have xa := blk_next (blk_alloc (alloc_blk w #[.int .i64 C.r, .int .i64 C.d, .int .i64 C.b, .int .i64 C.l, .int .i64 C.m, .int .i64 C.n, .int .i64 C.e, .slice a n c] 26) (.cells #[.int .i64 0, .int .i64 0, .int .i64 0, .int .i64 0, .int .i64 0, .int .i64 0, .int .i64 0, .slice none 0 0] 26)) hB1
  have xb := blk_next (alloc_blk (w.alloc (.cells #[.int .i64 C.r, .int .i64 C.d, .int .i64 C.b, .int .i64 C.l, .int .i64 C.m, .int .i64 C.n, .int .i64 C.e, .slice a n c] 26)) #[.int .i64 0, .int .i64 0, .int .i64 0, .int .i64 0, .int .i64 0, .int .i64 0, .int .i64 0, .slice none 0 0] 26) hB1
  have B01 := bt (bt (below_al w (.cells #[.int .i64 C.r, .int .i64 C.d, .int .i64 C.b, .int .i64 C.l, .int .i64 C.m, .int .i64 C.n, .int .i64 C.e, .slice a n c] 26)) (below_al _ (.cells #[.int .i64 0, .int .i64 0, .int .i64 0, .int .i64 0, .int .i64 0, .int .i64 0, .int .i64 0, .slice none 0 0] 26))) hB1
  simp only [size_alloc] at xb
  have ca0 := cell_blk xa 0
  have fa0 := free_blk xa 0
  have ca1 := cell_blk xa 1
  have fa1 := free_blk xa 1
  have ca2 := cell_blk xa 2
  have fa2 := free_blk xa 2
  have ca3 := cell_blk xa 3
  have fa3 := free_blk xa 3
  have ca4 := cell_blk xa 4
  have fa4 := free_blk xa 4
  have ca5 := cell_blk xa 5
  have fa5 := free_blk xa 5
  have ca6 := cell_blk xa 6
  have fa6 := free_blk xa 6
  have ca7 := cell_blk xa 7
  have fa7 := free_blk xa 7
  have la := blk_lt xa
  have cb0 := cell_blk xb 0
  have fb0 := free_blk xb 0
  have cb1 := cell_blk xb 1
  have fb1 := free_blk xb 1
  have cb2 := cell_blk xb 2
  have fb2 := free_blk xb 2
  have cb3 := cell_blk xb 3
  have fb3 := free_blk xb 3
  have cb4 := cell_blk xb 4
  have fb4 := free_blk xb 4
  have cb5 := cell_blk xb 5
  have fb5 := free_blk xb 5
  have cb6 := cell_blk xb 6
  have fb6 := free_blk xb 6
  have cb7 := cell_blk xb 7
  have fb7 := free_blk xb 7
  have lb := blk_lt xb
  have HT : Hid (Below w.heap.size w (w1.setCell ⟨w.heap.size, 4, none⟩ (.int .i64 z))) := Lib.hid (Below.setCell B01 (by simp) _)
  have ya := heap_setCell_same w1 w.heap.size 4 _ _ (.int .i64 z) xa
  have yb := (heap_setCell_other w1 ⟨w.heap.size, 4, none⟩ (w.heap.size + 1) (.int .i64 z) (by simp)).trans xb
  simp only [List.setIfInBounds_toArray, List.set_cons_zero, List.set_cons_succ] at ya
  have HYA := Lib.hid ya
  have HYB := Lib.hid yb
  clear B01 hB1 xa xb ya yb
  go_wp2_with fail
  clear ca0 ca1 ca2 ca3 ca4 ca5 ca6 ca7 fa0 fa1 fa2 fa3 fa4 fa5 fa6 fa7 la
  clear cb0 cb1 cb2 cb3 cb4 cb5 cb6 cb7 fb0 fb1 fb2 fb3 fb4 fb5 fb6 fb7 lb
  generalize w1.setCell ⟨w.heap.size, 4, none⟩ (.int .i64 z) = wq at HT HYA HYB ⊢
  have hS0 : (fun w' => Below wq.heap.size wq w') wq.drew := (Below.refl _ _).drew
  refine wp_region_noPanic ?_
  refine wp_region_held_drew (S := (fun w' => Below wq.heap.size wq w')) (by kernel_rfl) hS0 (fun hHeld => ?_)
  clear hS0
  refine wpAnyH_take (i := 0) (oi := ?o73) (v := ?v73) ?hi73 ?hs73 ?hf73 ?hr73 ?hQ73 ?hy73 ?hS73 ?rest73
  case hi73 => rfl
  case hs73 => kernel_rfl
  case hf73 => kernel_rfl
  case hr73 => kernel_rfl
  case hQ73 => exact fun _ _ _ h => h
  case hS73 => assumption
  case hy73 =>
    refine Or.inl ⟨by kernel_rfl, ?_⟩
    intro w' hSw
    (try dsimp only at hSw)
    go_simp
    (try rfl)
  (try simp only [List.getElem_toArray, List.getElem_cons_zero, Act.put, List.setIfInBounds_toArray, List.set_cons_zero, List.set_cons_succ])
  refine wpAnyH_take (i := 2) (oi := ?o74) (v := ?v74) ?hi74 ?hs74 ?hf74 ?hr74 ?hQ74 ?hy74 ?hS74 ?rest74
  case hi74 => rfl
  case hs74 => kernel_rfl
  case hf74 => kernel_rfl
  case hr74 => kernel_rfl
  case hQ74 => exact fun _ _ _ h => h
  case hS74 => assumption
  case hy74 =>
    refine Or.inl ⟨by kernel_rfl, ?_⟩
    intro w' hSw
    (try dsimp only at hSw)
    go_simp
    (try rfl)
  (try simp only [List.getElem_toArray, List.getElem_cons_succ, List.getElem_cons_zero, Act.put, List.setIfInBounds_toArray, List.set_cons_zero, List.set_cons_succ])
  refine wpAnyH_take (i := 6) (oi := ?o75) (v := ?v75) ?hi75 ?hs75 ?hf75 ?hr75 ?hQ75 ?hy75 ?hS75 ?rest75
  case hi75 => rfl
  case hs75 => kernel_rfl
  case hf75 => kernel_rfl
  case hr75 => kernel_rfl
  case hQ75 => exact fun _ _ _ h => h
  case hS75 => assumption
  case hy75 =>
    refine Or.inl ⟨by kernel_rfl, ?_⟩
    intro w' hSw
    (try dsimp only at hSw)
    go_simp
    (try rfl)
  (try simp only [List.getElem_toArray, List.getElem_cons_succ, List.getElem_cons_zero, Act.put, List.setIfInBounds_toArray, List.set_cons_zero, List.set_cons_succ])
  refine wpAnyH_ready (rs := [1]) (by kernel_rfl) (by simp) ?_
  refine AllReadyH.cons rfl (fun K hK => ?_) AllReadyH.nil
  go_simp
  refine (specLeastB _ 4 _ rfl).mono ?_
  rintro e w5 ⟨⟨rfl, hc5⟩, hB5⟩
  refine hK.out _ _ ?_ (fun hHeld => ?_)
  · exact bt hHeld hB5
  clear hK K
  (try simp only [List.getElem_toArray, List.getElem_cons_succ, List.getElem_cons_zero, Act.put, List.setIfInBounds_toArray, List.set_cons_zero, List.set_cons_succ])
  refine wpAnyH_weaken (S' := fun w' => Below wq.heap.size wq w' ∧ w'.cell? ⟨wq.heap.size, 4, none⟩ = some (.int .i64 1)) (fun _ h => h.1) _ _ _ _ ?_
  have hH1 : (fun w' => Below wq.heap.size wq w' ∧ w'.cell? ⟨wq.heap.size, 4, none⟩ = some (.int .i64 1)) w5 := ⟨hHeld, hc5⟩
  clear hHeld
  refine wpAnyH_take (i := 3) (oi := ?o76) (v := ?v76) ?hi76 ?hs76 ?hf76 ?hr76 ?hQ76 ?hy76 ?hS76 ?rest76
  case hi76 => rfl
  case hs76 => kernel_rfl
  case hf76 => kernel_rfl
  case hr76 => kernel_rfl
  case hQ76 => exact fun _ _ _ h => h
  case hS76 => assumption
  case hy76 =>
    refine Or.inl ⟨by kernel_rfl, ?_⟩
    intro w' hSw
    (try dsimp only at hSw)
    go_simp
    (try rfl)
  (try simp only [List.getElem_toArray, List.getElem_cons_succ, List.getElem_cons_zero, Act.put, List.setIfInBounds_toArray, List.set_cons_zero, List.set_cons_succ])
  refine wpAnyH_take (i := 4) (oi := ?o77) (v := ?v77) ?hi77 ?hs77 ?hf77 ?hr77 ?hQ77 ?hy77 ?hS77 ?rest77
  case hi77 => rfl
  case hs77 => kernel_rfl
  case hf77 => kernel_rfl
  case hr77 => kernel_rfl
  case hQ77 => exact fun _ _ _ h => h
  case hS77 => assumption
  case hy77 =>
    refine Or.inl ⟨by kernel_rfl, ?_⟩
    intro w' hSw
    (try dsimp only at hSw)
    go_simp
    (try rfl)
  (try simp only [List.getElem_toArray, List.getElem_cons_succ, List.getElem_cons_zero, Act.put, List.setIfInBounds_toArray, List.set_cons_zero, List.set_cons_succ])
  refine wpAnyH_ready (rs := [5]) (by kernel_rfl) (by simp) ?_
  refine AllReadyH.cons rfl (fun K hK => ?_) AllReadyH.nil
  go_simp
  refine (specMostB _ 4 _ rfl).mono ?_
  rintro e w6 ⟨⟨rfl, hc6⟩, hB6⟩
  refine hK.out _ _ ?_ (fun hHeld => ?_)
  · exact ⟨bt hH1.1 hB6, cell_keepX hc5 hB6⟩
  clear hK K
  (try simp only [List.getElem_toArray, List.getElem_cons_succ, List.getElem_cons_zero, Act.put, List.setIfInBounds_toArray, List.set_cons_zero, List.set_cons_succ])
  refine wpAnyH_weaken (S' := fun w' => (Below wq.heap.size wq w' ∧ w'.cell? ⟨wq.heap.size, 4, none⟩ = some (.int .i64 1)) ∧ w'.cell? ⟨w5.heap.size, 4, none⟩ = some (.int .i64 20)) (fun _ h => h.1) _ _ _ _ ?_
  have hH2 : (fun w' => (Below wq.heap.size wq w' ∧ w'.cell? ⟨wq.heap.size, 4, none⟩ = some (.int .i64 1)) ∧ w'.cell? ⟨w5.heap.size, 4, none⟩ = some (.int .i64 20)) w6 := ⟨hHeld, hc6⟩
  clear hHeld hH1
  refine wpAnyH_take (i := 7) (oi := ?o78) (v := ?v78) ?hi78 ?hs78 ?hf78 ?hr78 ?hQ78 ?hy78 ?hS78 ?rest78
  case hi78 => rfl
  case hs78 => kernel_rfl
  case hf78 => kernel_rfl
  case hr78 => kernel_rfl
  case hQ78 => exact fun _ _ _ h => h
  case hS78 => assumption
  case hy78 =>
    refine Or.inl ⟨by kernel_rfl, ?_⟩
    intro w' hSw
    (try dsimp only at hSw)
    go_simp
    (try rfl)
  (try simp only [List.getElem_toArray, List.getElem_cons_succ, List.getElem_cons_zero, Act.put, List.setIfInBounds_toArray, List.set_cons_zero, List.set_cons_succ])
  refine wpAnyH_take (i := 8) (oi := ?o79) (v := ?v79) ?hi79 ?hs79 ?hf79 ?hr79 ?hQ79 ?hy79 ?hS79 ?rest79
  case hi79 => rfl
  case hs79 => kernel_rfl
  case hf79 => kernel_rfl
  case hr79 => kernel_rfl
  case hQ79 => exact fun _ _ _ h => h
  case hS79 => assumption
  case hy79 =>
    refine Or.inl ⟨by kernel_rfl, ?_⟩
    intro w' hSw
    (try dsimp only at hSw)
    go_simp
    (try rfl)
  (try simp only [List.getElem_toArray, List.getElem_cons_succ, List.getElem_cons_zero, Act.put, List.setIfInBounds_toArray, List.set_cons_zero, List.set_cons_succ])
  refine wpAnyH_ready (rs := [9]) (by kernel_rfl) (by simp) ?_
  refine AllReadyH.cons rfl (fun K hK => ?_) AllReadyH.nil
  go_simp
  refine (specIn8 _ _ _ _).mono ?_
  rintro e w7 ⟨rfl, rfl⟩
  rw [HI.out]
  refine hK.out _ _ ?_ (fun hHeld => ?_)
  · exact hH2
  clear hK K
  (try simp only [List.getElem_toArray, List.getElem_cons_succ, List.getElem_cons_zero, Act.put, List.setIfInBounds_toArray, List.set_cons_zero, List.set_cons_succ])
  refine wpAnyH_take (i := 10) (oi := ?o80) (v := ?v80) ?hi80 ?hs80 ?hf80 ?hr80 ?hQ80 ?hy80 ?hS80 ?rest80
  case hi80 => rfl
  case hs80 => kernel_rfl
  case hf80 => kernel_rfl
  case hr80 => kernel_rfl
  case hQ80 => exact fun _ _ _ h => h
  case hS80 => assumption
  case hy80 =>
    refine Or.inl ⟨by kernel_rfl, ?_⟩
    intro w' hSw
    (try dsimp only at hSw)
    go_simp
    (try rfl)
  (try simp only [List.getElem_toArray, List.getElem_cons_succ, List.getElem_cons_zero, Act.put, List.setIfInBounds_toArray, List.set_cons_zero, List.set_cons_succ])
  refine wpAnyH_done (by kernel_rfl) ?_ _
  refine NoPanic.normal ?_
  have hH2 := hHeld.1.1
  have xa := blk_next HYA.out hH2
  have xb := blk_next HYB.out hH2
  have ca0 := cell_blk xa 0
  have fa0 := free_blk xa 0
  have ca1 := cell_blk xa 1
  have fa1 := free_blk xa 1
  have ca2 := cell_blk xa 2
  have fa2 := free_blk xa 2
  have ca3 := cell_blk xa 3
  have fa3 := free_blk xa 3
  have ca4 := cell_blk xa 4
  have fa4 := free_blk xa 4
  have ca5 := cell_blk xa 5
  have fa5 := free_blk xa 5
  have ca6 := cell_blk xa 6
  have fa6 := free_blk xa 6
  have ca7 := cell_blk xa 7
  have fa7 := free_blk xa 7
  have la := blk_lt xa
  have cb0 := cell_blk xb 0
  have fb0 := free_blk xb 0
  have cb1 := cell_blk xb 1
  have fb1 := free_blk xb 1
  have cb2 := cell_blk xb 2
  have fb2 := free_blk xb 2
  have cb3 := cell_blk xb 3
  have fb3 := free_blk xb 3
  have cb4 := cell_blk xb 4
  have fb4 := free_blk xb 4
  have cb5 := cell_blk xb 5
  have fb5 := free_blk xb 5
  have cb6 := cell_blk xb 6
  have fb6 := free_blk xb 6
  have cb7 := cell_blk xb 7
  have fb7 := free_blk xb 7
  have lb := blk_lt xb
  replace HT := Lib.hid (bt HT.out hH2)
  clear xa xb hHeld
  go_wp2_with fail
  (try simp only [Exit.inBlock, Exit.then])
  refine bodyPost_ret (v := .tuple #[.agg #[.int .i64 C.r, .int .i64 C.d, .int .i64 C.b, .int .i64 C.l, .int .i64 z, .int .i64 C.n, .int .i64 C.e, .slice a n c], .int .i64 13]) ?_ rfl ⟨rfl, ?_⟩
  · rw [results_cell_tmp rfl]
    go_simp
  · iterate 8 refine Below.setCell ?_ (by simp <;> omega) _
    exact HT.out
end Go.Proofs.YtnnbhgnllbjmeaaGreatDoor
