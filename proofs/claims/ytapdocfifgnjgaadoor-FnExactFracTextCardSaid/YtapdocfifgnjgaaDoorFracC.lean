
/-
  Two fractions over one denominator, their sum, their order: the reference's way.
-/
import Derived.Test.YtapdocfifgnjgaaDoorFracS
import Derived.Test.YtapdocfifgnjgaaDoorPk4
import Derived.Test.YtapdocfifgnjgaaDoorImpE
namespace Go.Proofs.YtapdocfifgnjgaaDoor
open Go.RowKit

theorem box4 {w w1 : World} {a b c d : Array Value} {T U V X : TypeId} (hB : Below ((((w.alloc (.cells a T)).alloc (.cells b U)).alloc (.cells c V)).alloc (.cells d X)).heap.size ((((w.alloc (.cells a T)).alloc (.cells b U)).alloc (.cells c V)).alloc (.cells d X)) w1) :
    w1.heap[w.heap.size]? = some (.cells a T (0, 0)) ∧ w1.heap[w.heap.size + 1]? = some (.cells b U (0, 0)) ∧ w1.heap[w.heap.size + 1 + 1]? = some (.cells c V (0, 0)) ∧ w1.heap[w.heap.size + 1 + 1 + 1]? = some (.cells d X (0, 0)) ∧ Below w.heap.size w w1 := by
  have h := box3 (box_below hB)
  have k := box_kept hB
  rw [show (((w.alloc (.cells a T)).alloc (.cells b U)).alloc (.cells c V)).heap.size = w.heap.size + 1 + 1 + 1 by simp] at k
  exact ⟨h.1, h.2.1, h.2.2.1, k, h.2.2.2.1⟩
theorem results_cells2_tmp {fn : Func} {p q u : Tmp} {ty tz : TypeId} (h : fn.results = #[.cell p ty, .cell q tz, .tmp u]) (tmps : Array Value) (P : Program) (w : World) :
    (results fn tmps).run P w = ((asAddr (tmps.getD p undef)).run P w).andThen fun a w1 => ((loadVar ty a).run P w1).andThen fun x w2 => ((asAddr (tmps.getD q undef)).run P w2).andThen fun b w3 => ((loadVar tz b).run P w3).andThen fun y w4 => .ok (.tuple #[x, y, tmps.getD u undef]) w4 := by
  simp only [results, h]
  simp [Sem.run_bind, Result.andThen]
set_option maxRecDepth 100000 in
set_option maxHeartbeats 1000000 in
theorem specCross_a (n0 : Bool) (h0 l0 d0 : Int) (n1 : Bool) (h1 l1 d1 : Int) (HA : Hid (okF n0 h0 l0 d0 = false)) (w : World) :
    Calls Tryd.prog 25 #[.agg #[.bool n0, .int .u64 h0, .int .u64 l0, .int .i64 d0], .agg #[.bool n1, .int .u64 h1, .int .u64 l1, .int .i64 d1]] w fun e w' => e = .returned (.tuple #[.agg #[.bool false, .int .u64 0, .int .u64 0], .agg #[.bool false, .int .u64 0, .int .u64 0], .bool false]) ∧ Below w.heap.size w w' := by
  go_enter Tryd.func25, Tryd.ntmps25
  go_wp2_with fail
  refine (specFracOk n0 h0 l0 d0 _).mono ?_
  rintro e w1 ⟨rfl, hB1⟩
  rw [HA.out]
  obtain ⟨hA, hB, hR, hS, hBB⟩ := box4 hB1
  have HT := Lib.hid hBB
  clear hBB hB1
  have cR0 : w1.cell? ⟨w.heap.size + 1 + 1, 0, none⟩ = some (.bool false) := cell_blk hR 0
  have cR1 : w1.cell? ⟨w.heap.size + 1 + 1, 1, none⟩ = some (.int .u64 0) := cell_blk hR 1
  have cR2 : w1.cell? ⟨w.heap.size + 1 + 1, 2, none⟩ = some (.int .u64 0) := cell_blk hR 2
  have fR := free_blk hR
  have lR := blkF hR
  have cS0 : w1.cell? ⟨w.heap.size + 1 + 1 + 1, 0, none⟩ = some (.bool false) := cell_blk hS 0
  have cS1 : w1.cell? ⟨w.heap.size + 1 + 1 + 1, 1, none⟩ = some (.int .u64 0) := cell_blk hS 1
  have cS2 : w1.cell? ⟨w.heap.size + 1 + 1 + 1, 2, none⟩ = some (.int .u64 0) := cell_blk hS 2
  have fS := free_blk hS
  have lS := blkF hS
  go_wp2_with fail
  (try simp only [Exit.inBlock, Exit.then])
  refine bodyPost_ret (v := .tuple #[.agg #[.bool false, .int .u64 0, .int .u64 0], .agg #[.bool false, .int .u64 0, .int .u64 0], .bool false]) ?_ rfl ⟨rfl, ?_⟩
  · rw [results_cells2_tmp rfl]
    go_simp
  · repeat' (first | refine Below.setCell ?_ (by simp <;> omega) _ | exact HT.out)
set_option maxRecDepth 100000 in
set_option maxHeartbeats 1000000 in
theorem specCross_b (n0 : Bool) (h0 l0 d0 : Int) (n1 : Bool) (h1 l1 d1 : Int) (HA : Hid (okF n0 h0 l0 d0 = true)) (HB : Hid (okF n1 h1 l1 d1 = false)) (w : World) :
    Calls Tryd.prog 25 #[.agg #[.bool n0, .int .u64 h0, .int .u64 l0, .int .i64 d0], .agg #[.bool n1, .int .u64 h1, .int .u64 l1, .int .i64 d1]] w fun e w' => e = .returned (.tuple #[.agg #[.bool false, .int .u64 0, .int .u64 0], .agg #[.bool false, .int .u64 0, .int .u64 0], .bool false]) ∧ Below w.heap.size w w' := by
  go_enter Tryd.func25, Tryd.ntmps25
  go_wp2_with fail
  refine (specFracOk n0 h0 l0 d0 _).mono ?_
  rintro e w1 ⟨rfl, hB1⟩
  rw [HA.out]
  obtain ⟨hA, hB, hR, hS, hBB⟩ := box4 hB1
  have HT := Lib.hid hBB
  clear hBB hB1
  have cB0 : w1.cell? ⟨w.heap.size + 1, 0, none⟩ = some (.bool n1) := cell_blk hB 0
  have cB1 : w1.cell? ⟨w.heap.size + 1, 1, none⟩ = some (.int .u64 h1) := cell_blk hB 1
  have cB2 : w1.cell? ⟨w.heap.size + 1, 2, none⟩ = some (.int .u64 l1) := cell_blk hB 2
  have cB3 : w1.cell? ⟨w.heap.size + 1, 3, none⟩ = some (.int .i64 d1) := cell_blk hB 3
  have lB := blkF hB
  go_wp2_with fail
  refine (specFracOk n1 h1 l1 d1 _).mono ?_
  rintro e w2 ⟨rfl, hB2⟩
  rw [HB.out]
  replace hA := box_still hA hB2
  replace hB := box_still hB hB2
  replace hR := box_still hR hB2
  replace hS := box_still hS hB2
  replace HT := Lib.hid (bt2 HT.out hB2)
  clear hB2
  clear cB0 cB1 cB2 cB3 lB
  have cR0 : w2.cell? ⟨w.heap.size + 1 + 1, 0, none⟩ = some (.bool false) := cell_blk hR 0
  have cR1 : w2.cell? ⟨w.heap.size + 1 + 1, 1, none⟩ = some (.int .u64 0) := cell_blk hR 1
  have cR2 : w2.cell? ⟨w.heap.size + 1 + 1, 2, none⟩ = some (.int .u64 0) := cell_blk hR 2
  have fR := free_blk hR
  have lR := blkF hR
  have cS0 : w2.cell? ⟨w.heap.size + 1 + 1 + 1, 0, none⟩ = some (.bool false) := cell_blk hS 0
  have cS1 : w2.cell? ⟨w.heap.size + 1 + 1 + 1, 1, none⟩ = some (.int .u64 0) := cell_blk hS 1
  have cS2 : w2.cell? ⟨w.heap.size + 1 + 1 + 1, 2, none⟩ = some (.int .u64 0) := cell_blk hS 2
  have fS := free_blk hS
  have lS := blkF hS
  go_wp2_with fail
  (try simp only [Exit.inBlock, Exit.then])
  refine bodyPost_ret (v := .tuple #[.agg #[.bool false, .int .u64 0, .int .u64 0], .agg #[.bool false, .int .u64 0, .int .u64 0], .bool false]) ?_ rfl ⟨rfl, ?_⟩
  · rw [results_cells2_tmp rfl]
    go_simp
  · repeat' (first | refine Below.setCell ?_ (by simp <;> omega) _ | exact HT.out)
set_option maxRecDepth 100000 in
set_option maxHeartbeats 1000000 in
theorem specCross_true (n0 : Bool) (h0 l0 d0 : Int) (n1 : Bool) (h1 l1 d1 : Int) (hp0 : 0 ≤ h0) (hq0 : h0 < 18446744073709551616) (lp0 : 0 ≤ l0) (lq0 : l0 < 18446744073709551616) (dp0 : -9223372036854775808 ≤ d0) (dq0 : d0 ≤ 9223372036854775807) (hp1 : 0 ≤ h1) (hq1 : h1 < 18446744073709551616) (lp1 : 0 ≤ l1) (lq1 : l1 < 18446744073709551616) (dp1 : -9223372036854775808 ≤ d1) (dq1 : d1 ≤ 9223372036854775807) (HA : Hid (okF n0 h0 l0 d0 = true)) (HB : Hid (okF n1 h1 l1 d1 = true)) (m0 m1 b1 : Bool) (x0 y0 x1 y1 : Int) (HX : Hid (scaleE n0 h0 l0 d1 = .returned (.tuple #[.agg #[.bool m0, .int .u64 x0, .int .u64 y0], .bool true]))) (HY : Hid (scaleE n1 h1 l1 d0 = .returned (.tuple #[.agg #[.bool m1, .int .u64 x1, .int .u64 y1], .bool b1]))) (w : World) :
    Calls Tryd.prog 25 #[.agg #[.bool n0, .int .u64 h0, .int .u64 l0, .int .i64 d0], .agg #[.bool n1, .int .u64 h1, .int .u64 l1, .int .i64 d1]] w fun e w' => e = .returned (.tuple #[.agg #[.bool m0, .int .u64 x0, .int .u64 y0], .agg #[.bool m1, .int .u64 x1, .int .u64 y1], .bool b1]) ∧ Below w.heap.size w w' := by
  go_enter Tryd.func25, Tryd.ntmps25
  go_wp2_with fail
  refine (specFracOk n0 h0 l0 d0 _).mono ?_
  rintro e w1 ⟨rfl, hB1⟩
  rw [HA.out]
  obtain ⟨hA, hB, hR, hS, hBB⟩ := box4 hB1
  have HT := Lib.hid hBB
  clear hBB hB1
  have cB0 : w1.cell? ⟨w.heap.size + 1, 0, none⟩ = some (.bool n1) := cell_blk hB 0
  have cB1 : w1.cell? ⟨w.heap.size + 1, 1, none⟩ = some (.int .u64 h1) := cell_blk hB 1
  have cB2 : w1.cell? ⟨w.heap.size + 1, 2, none⟩ = some (.int .u64 l1) := cell_blk hB 2
  have cB3 : w1.cell? ⟨w.heap.size + 1, 3, none⟩ = some (.int .i64 d1) := cell_blk hB 3
  have lB := blkF hB
  go_wp2_with fail
  refine (specFracOk n1 h1 l1 d1 _).mono ?_
  rintro e w2 ⟨rfl, hB2⟩
  rw [HB.out]
  replace hA := box_still hA hB2
  replace hB := box_still hB hB2
  replace hR := box_still hR hB2
  replace hS := box_still hS hB2
  replace HT := Lib.hid (bt2 HT.out hB2)
  clear hB2
  clear cB0 cB1 cB2 cB3 lB
  have cA0 : w2.cell? ⟨w.heap.size, 0, none⟩ = some (.bool n0) := cell_blk hA 0
  have cA1 : w2.cell? ⟨w.heap.size, 1, none⟩ = some (.int .u64 h0) := cell_blk hA 1
  have cA2 : w2.cell? ⟨w.heap.size, 2, none⟩ = some (.int .u64 l0) := cell_blk hA 2
  have cA3 : w2.cell? ⟨w.heap.size, 3, none⟩ = some (.int .i64 d0) := cell_blk hA 3
  have lA := blkF hA
  have cB0 : w2.cell? ⟨w.heap.size + 1, 0, none⟩ = some (.bool n1) := cell_blk hB 0
  have cB1 : w2.cell? ⟨w.heap.size + 1, 1, none⟩ = some (.int .u64 h1) := cell_blk hB 1
  have cB2 : w2.cell? ⟨w.heap.size + 1, 2, none⟩ = some (.int .u64 l1) := cell_blk hB 2
  have cB3 : w2.cell? ⟨w.heap.size + 1, 3, none⟩ = some (.int .i64 d1) := cell_blk hB 3
  have lB := blkF hB
  go_wp2_with fail
  refine (specScaleWide n0 h0 l0 d1 hp0 hq0 lp0 lq0 dp1 dq1 _).mono ?_
  rintro e w3 ⟨rfl, hB3⟩
  rw [HX.out]
  replace hA := box_still hA hB3
  replace hB := box_still hB hB3
  replace hR := box_still hR hB3
  replace hS := box_still hS hB3
  replace HT := Lib.hid (bt2 HT.out hB3)
  clear hB3
  clear cA0 cA1 cA2 cA3 lA
  clear cB0 cB1 cB2 cB3 lB
  have cA0 : w3.cell? ⟨w.heap.size, 0, none⟩ = some (.bool n0) := cell_blk hA 0
  have cA1 : w3.cell? ⟨w.heap.size, 1, none⟩ = some (.int .u64 h0) := cell_blk hA 1
  have cA2 : w3.cell? ⟨w.heap.size, 2, none⟩ = some (.int .u64 l0) := cell_blk hA 2
  have cA3 : w3.cell? ⟨w.heap.size, 3, none⟩ = some (.int .i64 d0) := cell_blk hA 3
  have lA := blkF hA
  have cB0 : w3.cell? ⟨w.heap.size + 1, 0, none⟩ = some (.bool n1) := cell_blk hB 0
  have cB1 : w3.cell? ⟨w.heap.size + 1, 1, none⟩ = some (.int .u64 h1) := cell_blk hB 1
  have cB2 : w3.cell? ⟨w.heap.size + 1, 2, none⟩ = some (.int .u64 l1) := cell_blk hB 2
  have cB3 : w3.cell? ⟨w.heap.size + 1, 3, none⟩ = some (.int .i64 d1) := cell_blk hB 3
  have lB := blkF hB
  go_wp2_with fail
  refine (specScaleWide n1 h1 l1 d0 hp1 hq1 lp1 lq1 dp0 dq0 _).mono ?_
  have hlS3 := blkF hS
  rintro e w4 ⟨rfl, hB4⟩
  rw [HY.out]
  have hX := box_kept hB4
  have hBB := box_below hB4
  replace hR := box_still hR hBB
  replace hS := box_still hS hBB
  replace HT := Lib.hid (bt2 HT.out hBB)
  clear hB4 hBB
  clear cA0 cA1 cA2 cA3 lA
  clear cB0 cB1 cB2 cB3 lB
  have cX0 : w4.cell? ⟨w3.heap.size, 0, none⟩ = some (.bool m0) := cell_blk hX 0
  have cX1 : w4.cell? ⟨w3.heap.size, 1, none⟩ = some (.int .u64 x0) := cell_blk hX 1
  have cX2 : w4.cell? ⟨w3.heap.size, 2, none⟩ = some (.int .u64 y0) := cell_blk hX 2
  have lX := blkF hX
  go_wp2_with fail
  clear cX0 cX1 cX2 lX
  have hY : (w4.alloc (.cells #[.bool m1, .int .u64 x1, .int .u64 y1] 26)).heap[w4.heap.size]? = some (.cells #[.bool m1, .int .u64 x1, .int .u64 y1] 26 (0, 0)) := box_new _ _
  have hX2 : (w4.alloc (.cells #[.bool m1, .int .u64 x1, .int .u64 y1] 26)).heap[w3.heap.size]? = some (.cells #[.bool m0, .int .u64 x0, .int .u64 y0] 26 (0, 0)) := by
    rw [Below.heap_alloc _ _ _ (blkF hX)]
    exact hX
  have hR2 : (w4.alloc (.cells #[.bool m1, .int .u64 x1, .int .u64 y1] 26)).heap[w.heap.size + 1 + 1]? = some (.cells #[.bool false, .int .u64 0, .int .u64 0] 26 (0, 0)) := by
    rw [Below.heap_alloc _ _ _ (blkF hR)]
    exact hR
  have hS2 : (w4.alloc (.cells #[.bool m1, .int .u64 x1, .int .u64 y1] 26)).heap[w.heap.size + 1 + 1 + 1]? = some (.cells #[.bool false, .int .u64 0, .int .u64 0] 26 (0, 0)) := by
    rw [Below.heap_alloc _ _ _ (blkF hS)]
    exact hS
  have hlX := blkF hX
  have hlR := blkF hR
  have hlS := blkF hS
  have hs3 : w.heap.size + 1 + 1 + 1 < w3.heap.size := by omega
  have HT2 : Hid (Below w.heap.size w (w4.alloc (.cells #[.bool m1, .int .u64 x1, .int .u64 y1] 26))) := Lib.hid (HT.out.alloc HT.out.size _)
  generalize (w4.alloc (.cells #[.bool m1, .int .u64 x1, .int .u64 y1] 26)) = wy at hY hX2 hR2 hS2 HT2 ⊢
  have hDD : wy.drew.cell? ⟨w3.heap.size, 0, none⟩ = some (.bool m0) ∧ wy.drew.cell? ⟨w3.heap.size, 1, none⟩ = some (.int .u64 x0) ∧ wy.drew.cell? ⟨w3.heap.size, 2, none⟩ = some (.int .u64 y0) ∧ wy.drew.cell? ⟨w4.heap.size, 0, none⟩ = some (.bool m1) ∧ wy.drew.cell? ⟨w4.heap.size, 1, none⟩ = some (.int .u64 x1) ∧ wy.drew.cell? ⟨w4.heap.size, 2, none⟩ = some (.int .u64 y1) := ⟨cell_blk (w := wy) hX2 0, cell_blk (w := wy) hX2 1, cell_blk (w := wy) hX2 2, cell_blk (w := wy) hY 0, cell_blk (w := wy) hY 1, cell_blk (w := wy) hY 2⟩
  refine wp_region_noPanic ?_
  refine wp_region_held_drew (S := (fun w' => w'.cell? ⟨w3.heap.size, 0, none⟩ = some (.bool m0) ∧ w'.cell? ⟨w3.heap.size, 1, none⟩ = some (.int .u64 x0) ∧ w'.cell? ⟨w3.heap.size, 2, none⟩ = some (.int .u64 y0) ∧ w'.cell? ⟨w4.heap.size, 0, none⟩ = some (.bool m1) ∧ w'.cell? ⟨w4.heap.size, 1, none⟩ = some (.int .u64 x1) ∧ w'.cell? ⟨w4.heap.size, 2, none⟩ = some (.int .u64 y1))) (by kernel_rfl) hDD (fun hHeld => ?_)
  clear hDD
  have hX3 : wy.drew.heap[w3.heap.size]? = some (.cells #[.bool m0, .int .u64 x0, .int .u64 y0] 26 (0, 0)) := hX2
  have hY3 : wy.drew.heap[w4.heap.size]? = some (.cells #[.bool m1, .int .u64 x1, .int .u64 y1] 26 (0, 0)) := hY
  have hR3 : wy.drew.heap[w.heap.size + 1 + 1]? = some (.cells #[.bool false, .int .u64 0, .int .u64 0] 26 (0, 0)) := hR2
  have hS3 : wy.drew.heap[w.heap.size + 1 + 1 + 1]? = some (.cells #[.bool false, .int .u64 0, .int .u64 0] 26 (0, 0)) := hS2
  have HT3 : Hid (Below w.heap.size w wy.drew) := Lib.hid (Below.drew HT2.out)
  clear hX2 hY hR2 hS2 HT2
  generalize wy.drew = wz at hX3 hY3 hR3 hS3 HT3 hHeld ⊢
  refine wpAnyH_take (i := 0) (oi := ?o1) (v := ?v1) ?hi1 ?hs1 ?hf1 ?hr1 ?hQ1 ?hy1 ?hS1 ?rest1
  case hi1 => rfl
  case hs1 => kernel_rfl
  case hf1 => kernel_rfl
  case hr1 => kernel_rfl
  case hQ1 => exact fun _ _ _ h => h
  case hS1 => assumption
  case hy1 =>
    refine Or.inl ⟨by kernel_rfl, ?_⟩
    intro w' hSw
    (try dsimp only at hSw)
    go_simp
    (try rfl)
  (try simp only [List.getElem_toArray, List.getElem_cons_zero, Act.put, List.setIfInBounds_toArray, List.set_cons_zero, List.set_cons_succ])
  refine wpAnyH_take (i := 1) (oi := ?o2) (v := ?v2) ?hi2 ?hs2 ?hf2 ?hr2 ?hQ2 ?hy2 ?hS2 ?rest2
  case hi2 => rfl
  case hs2 => kernel_rfl
  case hf2 => kernel_rfl
  case hr2 => kernel_rfl
  case hQ2 => exact fun _ _ _ h => h
  case hS2 => assumption
  case hy2 =>
    refine Or.inl ⟨by kernel_rfl, ?_⟩
    intro w' hSw
    (try dsimp only at hSw)
    go_simp
    (try rfl)
  (try simp only [List.getElem_toArray, List.getElem_cons_succ, List.getElem_cons_zero, Act.put, List.setIfInBounds_toArray, List.set_cons_zero, List.set_cons_succ])
  refine wpAnyH_take (i := 2) (oi := ?o3) (v := ?v3) ?hi3 ?hs3 ?hf3 ?hr3 ?hQ3 ?hy3 ?hS3 ?rest3
  case hi3 => rfl
  case hs3 => kernel_rfl
  case hf3 => kernel_rfl
  case hr3 => kernel_rfl
  case hQ3 => exact fun _ _ _ h => h
  case hS3 => assumption
  case hy3 =>
    refine Or.inl ⟨by kernel_rfl, ?_⟩
    intro w' hSw
    (try dsimp only at hSw)
    go_simp
    (try rfl)
  (try simp only [List.getElem_toArray, List.getElem_cons_succ, List.getElem_cons_zero, Act.put, List.setIfInBounds_toArray, List.set_cons_zero, List.set_cons_succ])
  refine wpAnyH_take (i := 3) (oi := ?o4) (v := ?v4) ?hi4 ?hs4 ?hf4 ?hr4 ?hQ4 ?hy4 ?hS4 ?rest4
  case hi4 => rfl
  case hs4 => kernel_rfl
  case hf4 => kernel_rfl
  case hr4 => kernel_rfl
  case hQ4 => exact fun _ _ _ h => h
  case hS4 => assumption
  case hy4 =>
    refine Or.inl ⟨by kernel_rfl, ?_⟩
    intro w' hSw
    (try dsimp only at hSw)
    go_simp
    (try rfl)
  (try simp only [List.getElem_toArray, List.getElem_cons_succ, List.getElem_cons_zero, Act.put, List.setIfInBounds_toArray, List.set_cons_zero, List.set_cons_succ])
  refine wpAnyH_take (i := 4) (oi := ?o5) (v := ?v5) ?hi5 ?hs5 ?hf5 ?hr5 ?hQ5 ?hy5 ?hS5 ?rest5
  case hi5 => rfl
  case hs5 => kernel_rfl
  case hf5 => kernel_rfl
  case hr5 => kernel_rfl
  case hQ5 => exact fun _ _ _ h => h
  case hS5 => assumption
  case hy5 =>
    refine Or.inl ⟨by kernel_rfl, ?_⟩
    intro w' hSw
    (try dsimp only at hSw)
    go_simp
    (try rfl)
  (try simp only [List.getElem_toArray, List.getElem_cons_succ, List.getElem_cons_zero, Act.put, List.setIfInBounds_toArray, List.set_cons_zero, List.set_cons_succ])
  refine wpAnyH_take (i := 5) (oi := ?o6) (v := ?v6) ?hi6 ?hs6 ?hf6 ?hr6 ?hQ6 ?hy6 ?hS6 ?rest6
  case hi6 => rfl
  case hs6 => kernel_rfl
  case hf6 => kernel_rfl
  case hr6 => kernel_rfl
  case hQ6 => exact fun _ _ _ h => h
  case hS6 => assumption
  case hy6 =>
    refine Or.inl ⟨by kernel_rfl, ?_⟩
    intro w' hSw
    (try dsimp only at hSw)
    go_simp
    (try rfl)
  (try simp only [List.getElem_toArray, List.getElem_cons_succ, List.getElem_cons_zero, Act.put, List.setIfInBounds_toArray, List.set_cons_zero, List.set_cons_succ])
  have cR0 : wz.cell? ⟨w.heap.size + 1 + 1, 0, none⟩ = some (.bool false) := cell_blk hR3 0
  have cR1 : wz.cell? ⟨w.heap.size + 1 + 1, 1, none⟩ = some (.int .u64 0) := cell_blk hR3 1
  have cR2 : wz.cell? ⟨w.heap.size + 1 + 1, 2, none⟩ = some (.int .u64 0) := cell_blk hR3 2
  have fR : ∀ k, wz.frozen? ⟨w.heap.size + 1 + 1, k, none⟩ = false := fun k => free_blk hR3 k
  have cS0 : wz.cell? ⟨w.heap.size + 1 + 1 + 1, 0, none⟩ = some (.bool false) := cell_blk hS3 0
  have cS1 : wz.cell? ⟨w.heap.size + 1 + 1 + 1, 1, none⟩ = some (.int .u64 0) := cell_blk hS3 1
  have cS2 : wz.cell? ⟨w.heap.size + 1 + 1 + 1, 2, none⟩ = some (.int .u64 0) := cell_blk hS3 2
  have fS : ∀ k, wz.frozen? ⟨w.heap.size + 1 + 1 + 1, k, none⟩ = false := fun k => free_blk hS3 k
  have HK0 : wz.cell? ⟨w3.heap.size, 0, none⟩ = some (.bool m0) := cell_blk hX3 0
  have HK1 : wz.cell? ⟨w3.heap.size, 1, none⟩ = some (.int .u64 x0) := cell_blk hX3 1
  have HK2 : wz.cell? ⟨w3.heap.size, 2, none⟩ = some (.int .u64 y0) := cell_blk hX3 2
  have HK3 : wz.cell? ⟨w4.heap.size, 0, none⟩ = some (.bool m1) := cell_blk hY3 0
  have HK4 : wz.cell? ⟨w4.heap.size, 1, none⟩ = some (.int .u64 x1) := cell_blk hY3 1
  have HK5 : wz.cell? ⟨w4.heap.size, 2, none⟩ = some (.int .u64 y1) := cell_blk hY3 2
  refine wpAnyH_ready (rs := [6]) (by kernel_rfl) (by simp) ?_
  refine AllReadyH.cons rfl (fun K hK => ?_) AllReadyH.nil
  go_simp
  replace HK0 : (((wz.setCell ⟨w.heap.size + 1 + 1, 0, none⟩ (.bool m0)).setCell ⟨w.heap.size + 1 + 1, 1, none⟩ (.int .u64 x0)).setCell ⟨w.heap.size + 1 + 1, 2, none⟩ (.int .u64 y0)).cell? ⟨w3.heap.size, 0, none⟩ = some (.bool m0) := (st3_far _ _ _ _ _ _ _ (by omega)).trans HK0
  replace HK1 : (((wz.setCell ⟨w.heap.size + 1 + 1, 0, none⟩ (.bool m0)).setCell ⟨w.heap.size + 1 + 1, 1, none⟩ (.int .u64 x0)).setCell ⟨w.heap.size + 1 + 1, 2, none⟩ (.int .u64 y0)).cell? ⟨w3.heap.size, 1, none⟩ = some (.int .u64 x0) := (st3_far _ _ _ _ _ _ _ (by omega)).trans HK1
  replace HK2 : (((wz.setCell ⟨w.heap.size + 1 + 1, 0, none⟩ (.bool m0)).setCell ⟨w.heap.size + 1 + 1, 1, none⟩ (.int .u64 x0)).setCell ⟨w.heap.size + 1 + 1, 2, none⟩ (.int .u64 y0)).cell? ⟨w3.heap.size, 2, none⟩ = some (.int .u64 y0) := (st3_far _ _ _ _ _ _ _ (by omega)).trans HK2
  replace HK3 : (((wz.setCell ⟨w.heap.size + 1 + 1, 0, none⟩ (.bool m0)).setCell ⟨w.heap.size + 1 + 1, 1, none⟩ (.int .u64 x0)).setCell ⟨w.heap.size + 1 + 1, 2, none⟩ (.int .u64 y0)).cell? ⟨w4.heap.size, 0, none⟩ = some (.bool m1) := (st3_far _ _ _ _ _ _ _ (by omega)).trans HK3
  replace HK4 : (((wz.setCell ⟨w.heap.size + 1 + 1, 0, none⟩ (.bool m0)).setCell ⟨w.heap.size + 1 + 1, 1, none⟩ (.int .u64 x0)).setCell ⟨w.heap.size + 1 + 1, 2, none⟩ (.int .u64 y0)).cell? ⟨w4.heap.size, 1, none⟩ = some (.int .u64 x1) := (st3_far _ _ _ _ _ _ _ (by omega)).trans HK4
  replace HK5 : (((wz.setCell ⟨w.heap.size + 1 + 1, 0, none⟩ (.bool m0)).setCell ⟨w.heap.size + 1 + 1, 1, none⟩ (.int .u64 x0)).setCell ⟨w.heap.size + 1 + 1, 2, none⟩ (.int .u64 y0)).cell? ⟨w4.heap.size, 2, none⟩ = some (.int .u64 y1) := (st3_far _ _ _ _ _ _ _ (by omega)).trans HK5
  refine hK.out _ _ ?_ (fun hHeld => ?_)
  · exact ⟨HK0, HK1, HK2, HK3, HK4, HK5⟩
  clear hK K
  (try simp only [List.getElem_toArray, List.getElem_cons_succ, List.getElem_cons_zero, Act.put, List.setIfInBounds_toArray, List.set_cons_zero, List.set_cons_succ])
  replace cS0 : (((wz.setCell ⟨w.heap.size + 1 + 1, 0, none⟩ (.bool m0)).setCell ⟨w.heap.size + 1 + 1, 1, none⟩ (.int .u64 x0)).setCell ⟨w.heap.size + 1 + 1, 2, none⟩ (.int .u64 y0)).cell? ⟨w.heap.size + 1 + 1 + 1, 0, none⟩ = some (.bool false) := (st3_far _ _ _ _ _ _ _ (by omega)).trans cS0
  replace cS1 : (((wz.setCell ⟨w.heap.size + 1 + 1, 0, none⟩ (.bool m0)).setCell ⟨w.heap.size + 1 + 1, 1, none⟩ (.int .u64 x0)).setCell ⟨w.heap.size + 1 + 1, 2, none⟩ (.int .u64 y0)).cell? ⟨w.heap.size + 1 + 1 + 1, 1, none⟩ = some (.int .u64 0) := (st3_far _ _ _ _ _ _ _ (by omega)).trans cS1
  replace cS2 : (((wz.setCell ⟨w.heap.size + 1 + 1, 0, none⟩ (.bool m0)).setCell ⟨w.heap.size + 1 + 1, 1, none⟩ (.int .u64 x0)).setCell ⟨w.heap.size + 1 + 1, 2, none⟩ (.int .u64 y0)).cell? ⟨w.heap.size + 1 + 1 + 1, 2, none⟩ = some (.int .u64 0) := (st3_far _ _ _ _ _ _ _ (by omega)).trans cS2
  replace fS : ∀ k, (((wz.setCell ⟨w.heap.size + 1 + 1, 0, none⟩ (.bool m0)).setCell ⟨w.heap.size + 1 + 1, 1, none⟩ (.int .u64 x0)).setCell ⟨w.heap.size + 1 + 1, 2, none⟩ (.int .u64 y0)).frozen? ⟨w.heap.size + 1 + 1 + 1, k, none⟩ = false := fun k => (st3_frozen _ _ _ _ _ _).trans (fS k)
  refine wpAnyH_ready (rs := [7]) (by kernel_rfl) (by simp) ?_
  refine AllReadyH.cons rfl (fun K hK => ?_) AllReadyH.nil
  go_simp
  replace HK0 : ((((((wz.setCell ⟨w.heap.size + 1 + 1, 0, none⟩ (.bool m0)).setCell ⟨w.heap.size + 1 + 1, 1, none⟩ (.int .u64 x0)).setCell ⟨w.heap.size + 1 + 1, 2, none⟩ (.int .u64 y0)).setCell ⟨w.heap.size + 1 + 1 + 1, 0, none⟩ (.bool m1)).setCell ⟨w.heap.size + 1 + 1 + 1, 1, none⟩ (.int .u64 x1)).setCell ⟨w.heap.size + 1 + 1 + 1, 2, none⟩ (.int .u64 y1)).cell? ⟨w3.heap.size, 0, none⟩ = some (.bool m0) := (st3_far _ _ _ _ _ _ _ (by omega)).trans HK0
  replace HK1 : ((((((wz.setCell ⟨w.heap.size + 1 + 1, 0, none⟩ (.bool m0)).setCell ⟨w.heap.size + 1 + 1, 1, none⟩ (.int .u64 x0)).setCell ⟨w.heap.size + 1 + 1, 2, none⟩ (.int .u64 y0)).setCell ⟨w.heap.size + 1 + 1 + 1, 0, none⟩ (.bool m1)).setCell ⟨w.heap.size + 1 + 1 + 1, 1, none⟩ (.int .u64 x1)).setCell ⟨w.heap.size + 1 + 1 + 1, 2, none⟩ (.int .u64 y1)).cell? ⟨w3.heap.size, 1, none⟩ = some (.int .u64 x0) := (st3_far _ _ _ _ _ _ _ (by omega)).trans HK1
  replace HK2 : ((((((wz.setCell ⟨w.heap.size + 1 + 1, 0, none⟩ (.bool m0)).setCell ⟨w.heap.size + 1 + 1, 1, none⟩ (.int .u64 x0)).setCell ⟨w.heap.size + 1 + 1, 2, none⟩ (.int .u64 y0)).setCell ⟨w.heap.size + 1 + 1 + 1, 0, none⟩ (.bool m1)).setCell ⟨w.heap.size + 1 + 1 + 1, 1, none⟩ (.int .u64 x1)).setCell ⟨w.heap.size + 1 + 1 + 1, 2, none⟩ (.int .u64 y1)).cell? ⟨w3.heap.size, 2, none⟩ = some (.int .u64 y0) := (st3_far _ _ _ _ _ _ _ (by omega)).trans HK2
  replace HK3 : ((((((wz.setCell ⟨w.heap.size + 1 + 1, 0, none⟩ (.bool m0)).setCell ⟨w.heap.size + 1 + 1, 1, none⟩ (.int .u64 x0)).setCell ⟨w.heap.size + 1 + 1, 2, none⟩ (.int .u64 y0)).setCell ⟨w.heap.size + 1 + 1 + 1, 0, none⟩ (.bool m1)).setCell ⟨w.heap.size + 1 + 1 + 1, 1, none⟩ (.int .u64 x1)).setCell ⟨w.heap.size + 1 + 1 + 1, 2, none⟩ (.int .u64 y1)).cell? ⟨w4.heap.size, 0, none⟩ = some (.bool m1) := (st3_far _ _ _ _ _ _ _ (by omega)).trans HK3
  replace HK4 : ((((((wz.setCell ⟨w.heap.size + 1 + 1, 0, none⟩ (.bool m0)).setCell ⟨w.heap.size + 1 + 1, 1, none⟩ (.int .u64 x0)).setCell ⟨w.heap.size + 1 + 1, 2, none⟩ (.int .u64 y0)).setCell ⟨w.heap.size + 1 + 1 + 1, 0, none⟩ (.bool m1)).setCell ⟨w.heap.size + 1 + 1 + 1, 1, none⟩ (.int .u64 x1)).setCell ⟨w.heap.size + 1 + 1 + 1, 2, none⟩ (.int .u64 y1)).cell? ⟨w4.heap.size, 1, none⟩ = some (.int .u64 x1) := (st3_far _ _ _ _ _ _ _ (by omega)).trans HK4
  replace HK5 : ((((((wz.setCell ⟨w.heap.size + 1 + 1, 0, none⟩ (.bool m0)).setCell ⟨w.heap.size + 1 + 1, 1, none⟩ (.int .u64 x0)).setCell ⟨w.heap.size + 1 + 1, 2, none⟩ (.int .u64 y0)).setCell ⟨w.heap.size + 1 + 1 + 1, 0, none⟩ (.bool m1)).setCell ⟨w.heap.size + 1 + 1 + 1, 1, none⟩ (.int .u64 x1)).setCell ⟨w.heap.size + 1 + 1 + 1, 2, none⟩ (.int .u64 y1)).cell? ⟨w4.heap.size, 2, none⟩ = some (.int .u64 y1) := (st3_far _ _ _ _ _ _ _ (by omega)).trans HK5
  refine hK.out _ _ ?_ (fun hHeld => ?_)
  · exact ⟨HK0, HK1, HK2, HK3, HK4, HK5⟩
  clear hK K
  (try simp only [List.getElem_toArray, List.getElem_cons_succ, List.getElem_cons_zero, Act.put, List.setIfInBounds_toArray, List.set_cons_zero, List.set_cons_succ])
  have k1 := st3_at wz (w.heap.size + 1 + 1) (.bool m0) (.int .u64 x0) (.int .u64 y0) _ _ _ cR0 cR1 cR2
  have k2 := st3_at (((wz.setCell ⟨w.heap.size + 1 + 1, 0, none⟩ (.bool m0)).setCell ⟨w.heap.size + 1 + 1, 1, none⟩ (.int .u64 x0)).setCell ⟨w.heap.size + 1 + 1, 2, none⟩ (.int .u64 y0)) (w.heap.size + 1 + 1 + 1) (.bool m1) (.int .u64 x1) (.int .u64 y1) _ _ _ cS0 cS1 cS2
  have e0 : ((((((wz.setCell ⟨w.heap.size + 1 + 1, 0, none⟩ (.bool m0)).setCell ⟨w.heap.size + 1 + 1, 1, none⟩ (.int .u64 x0)).setCell ⟨w.heap.size + 1 + 1, 2, none⟩ (.int .u64 y0)).setCell ⟨w.heap.size + 1 + 1 + 1, 0, none⟩ (.bool m1)).setCell ⟨w.heap.size + 1 + 1 + 1, 1, none⟩ (.int .u64 x1)).setCell ⟨w.heap.size + 1 + 1 + 1, 2, none⟩ (.int .u64 y1)).cell? ⟨w.heap.size + 1 + 1, 0, none⟩ = some (.bool m0) := (st3_far _ _ _ _ _ _ _ (by omega)).trans k1.1
  have e1 : ((((((wz.setCell ⟨w.heap.size + 1 + 1, 0, none⟩ (.bool m0)).setCell ⟨w.heap.size + 1 + 1, 1, none⟩ (.int .u64 x0)).setCell ⟨w.heap.size + 1 + 1, 2, none⟩ (.int .u64 y0)).setCell ⟨w.heap.size + 1 + 1 + 1, 0, none⟩ (.bool m1)).setCell ⟨w.heap.size + 1 + 1 + 1, 1, none⟩ (.int .u64 x1)).setCell ⟨w.heap.size + 1 + 1 + 1, 2, none⟩ (.int .u64 y1)).cell? ⟨w.heap.size + 1 + 1, 1, none⟩ = some (.int .u64 x0) := (st3_far _ _ _ _ _ _ _ (by omega)).trans k1.2.1
  have e2 : ((((((wz.setCell ⟨w.heap.size + 1 + 1, 0, none⟩ (.bool m0)).setCell ⟨w.heap.size + 1 + 1, 1, none⟩ (.int .u64 x0)).setCell ⟨w.heap.size + 1 + 1, 2, none⟩ (.int .u64 y0)).setCell ⟨w.heap.size + 1 + 1 + 1, 0, none⟩ (.bool m1)).setCell ⟨w.heap.size + 1 + 1 + 1, 1, none⟩ (.int .u64 x1)).setCell ⟨w.heap.size + 1 + 1 + 1, 2, none⟩ (.int .u64 y1)).cell? ⟨w.heap.size + 1 + 1, 2, none⟩ = some (.int .u64 y0) := (st3_far _ _ _ _ _ _ _ (by omega)).trans k1.2.2
  have e3 : ((((((wz.setCell ⟨w.heap.size + 1 + 1, 0, none⟩ (.bool m0)).setCell ⟨w.heap.size + 1 + 1, 1, none⟩ (.int .u64 x0)).setCell ⟨w.heap.size + 1 + 1, 2, none⟩ (.int .u64 y0)).setCell ⟨w.heap.size + 1 + 1 + 1, 0, none⟩ (.bool m1)).setCell ⟨w.heap.size + 1 + 1 + 1, 1, none⟩ (.int .u64 x1)).setCell ⟨w.heap.size + 1 + 1 + 1, 2, none⟩ (.int .u64 y1)).cell? ⟨w.heap.size + 1 + 1 + 1, 0, none⟩ = some (.bool m1) := k2.1
  have e4 : ((((((wz.setCell ⟨w.heap.size + 1 + 1, 0, none⟩ (.bool m0)).setCell ⟨w.heap.size + 1 + 1, 1, none⟩ (.int .u64 x0)).setCell ⟨w.heap.size + 1 + 1, 2, none⟩ (.int .u64 y0)).setCell ⟨w.heap.size + 1 + 1 + 1, 0, none⟩ (.bool m1)).setCell ⟨w.heap.size + 1 + 1 + 1, 1, none⟩ (.int .u64 x1)).setCell ⟨w.heap.size + 1 + 1 + 1, 2, none⟩ (.int .u64 y1)).cell? ⟨w.heap.size + 1 + 1 + 1, 1, none⟩ = some (.int .u64 x1) := k2.2.1
  have e5 : ((((((wz.setCell ⟨w.heap.size + 1 + 1, 0, none⟩ (.bool m0)).setCell ⟨w.heap.size + 1 + 1, 1, none⟩ (.int .u64 x0)).setCell ⟨w.heap.size + 1 + 1, 2, none⟩ (.int .u64 y0)).setCell ⟨w.heap.size + 1 + 1 + 1, 0, none⟩ (.bool m1)).setCell ⟨w.heap.size + 1 + 1 + 1, 1, none⟩ (.int .u64 x1)).setCell ⟨w.heap.size + 1 + 1 + 1, 2, none⟩ (.int .u64 y1)).cell? ⟨w.heap.size + 1 + 1 + 1, 2, none⟩ = some (.int .u64 y1) := k2.2.2
  clear k1 k2
  clear HK0 HK1 HK2 HK3 HK4 HK5 cR0 cR1 cR2 cS0 cS1 cS2 fR fS
  refine wpAnyH_take (i := 8) (oi := ?o7) (v := ?v7) ?hi7 ?hs7 ?hf7 ?hr7 ?hQ7 ?hy7 ?hS7 ?rest7
  case hi7 => rfl
  case hs7 => kernel_rfl
  case hf7 => kernel_rfl
  case hr7 => kernel_rfl
  case hQ7 => exact fun _ _ _ h => h
  case hS7 => assumption
  case hy7 =>
    refine Or.inl ⟨by kernel_rfl, ?_⟩
    intro w' hSw
    (try dsimp only at hSw)
    go_simp
    (try rfl)
  (try simp only [List.getElem_toArray, List.getElem_cons_succ, List.getElem_cons_zero, Act.put, List.setIfInBounds_toArray, List.set_cons_zero, List.set_cons_succ])
  refine wpAnyH_done (by kernel_rfl) ?_ _
  refine NoPanic.normal ?_
  go_wp2_with fail
  (try simp only [Exit.inBlock, Exit.then])
  refine bodyPost_ret (v := .tuple #[.agg #[.bool m0, .int .u64 x0, .int .u64 y0], .agg #[.bool m1, .int .u64 x1, .int .u64 y1], .bool b1]) ?_ rfl ⟨rfl, ?_⟩
  · rw [results_cells2_tmp rfl]
    go_simp
  · exact st3_below (st3_below HT3.out (by omega) _ _ _) (by omega) _ _ _
set_option maxRecDepth 100000 in
set_option maxHeartbeats 1000000 in
theorem specCross_false (n0 : Bool) (h0 l0 d0 : Int) (n1 : Bool) (h1 l1 d1 : Int) (hp0 : 0 ≤ h0) (hq0 : h0 < 18446744073709551616) (lp0 : 0 ≤ l0) (lq0 : l0 < 18446744073709551616) (dp0 : -9223372036854775808 ≤ d0) (dq0 : d0 ≤ 9223372036854775807) (hp1 : 0 ≤ h1) (hq1 : h1 < 18446744073709551616) (lp1 : 0 ≤ l1) (lq1 : l1 < 18446744073709551616) (dp1 : -9223372036854775808 ≤ d1) (dq1 : d1 ≤ 9223372036854775807) (HA : Hid (okF n0 h0 l0 d0 = true)) (HB : Hid (okF n1 h1 l1 d1 = true)) (m0 m1 b1 : Bool) (x0 y0 x1 y1 : Int) (HX : Hid (scaleE n0 h0 l0 d1 = .returned (.tuple #[.agg #[.bool m0, .int .u64 x0, .int .u64 y0], .bool false]))) (HY : Hid (scaleE n1 h1 l1 d0 = .returned (.tuple #[.agg #[.bool m1, .int .u64 x1, .int .u64 y1], .bool b1]))) (w : World) :
    Calls Tryd.prog 25 #[.agg #[.bool n0, .int .u64 h0, .int .u64 l0, .int .i64 d0], .agg #[.bool n1, .int .u64 h1, .int .u64 l1, .int .i64 d1]] w fun e w' => e = .returned (.tuple #[.agg #[.bool m0, .int .u64 x0, .int .u64 y0], .agg #[.bool m1, .int .u64 x1, .int .u64 y1], .bool false]) ∧ Below w.heap.size w w' := by
  go_enter Tryd.func25, Tryd.ntmps25
  go_wp2_with fail
  refine (specFracOk n0 h0 l0 d0 _).mono ?_
  rintro e w1 ⟨rfl, hB1⟩
  rw [HA.out]
  obtain ⟨hA, hB, hR, hS, hBB⟩ := box4 hB1
  have HT := Lib.hid hBB
  clear hBB hB1
  have cB0 : w1.cell? ⟨w.heap.size + 1, 0, none⟩ = some (.bool n1) := cell_blk hB 0
  have cB1 : w1.cell? ⟨w.heap.size + 1, 1, none⟩ = some (.int .u64 h1) := cell_blk hB 1
  have cB2 : w1.cell? ⟨w.heap.size + 1, 2, none⟩ = some (.int .u64 l1) := cell_blk hB 2
  have cB3 : w1.cell? ⟨w.heap.size + 1, 3, none⟩ = some (.int .i64 d1) := cell_blk hB 3
  have lB := blkF hB
  go_wp2_with fail
  refine (specFracOk n1 h1 l1 d1 _).mono ?_
  rintro e w2 ⟨rfl, hB2⟩
  rw [HB.out]
  replace hA := box_still hA hB2
  replace hB := box_still hB hB2
  replace hR := box_still hR hB2
  replace hS := box_still hS hB2
  replace HT := Lib.hid (bt2 HT.out hB2)
  clear hB2
  clear cB0 cB1 cB2 cB3 lB
  have cA0 : w2.cell? ⟨w.heap.size, 0, none⟩ = some (.bool n0) := cell_blk hA 0
  have cA1 : w2.cell? ⟨w.heap.size, 1, none⟩ = some (.int .u64 h0) := cell_blk hA 1
  have cA2 : w2.cell? ⟨w.heap.size, 2, none⟩ = some (.int .u64 l0) := cell_blk hA 2
  have cA3 : w2.cell? ⟨w.heap.size, 3, none⟩ = some (.int .i64 d0) := cell_blk hA 3
  have lA := blkF hA
  have cB0 : w2.cell? ⟨w.heap.size + 1, 0, none⟩ = some (.bool n1) := cell_blk hB 0
  have cB1 : w2.cell? ⟨w.heap.size + 1, 1, none⟩ = some (.int .u64 h1) := cell_blk hB 1
  have cB2 : w2.cell? ⟨w.heap.size + 1, 2, none⟩ = some (.int .u64 l1) := cell_blk hB 2
  have cB3 : w2.cell? ⟨w.heap.size + 1, 3, none⟩ = some (.int .i64 d1) := cell_blk hB 3
  have lB := blkF hB
  go_wp2_with fail
  refine (specScaleWide n0 h0 l0 d1 hp0 hq0 lp0 lq0 dp1 dq1 _).mono ?_
  rintro e w3 ⟨rfl, hB3⟩
  rw [HX.out]
  replace hA := box_still hA hB3
  replace hB := box_still hB hB3
  replace hR := box_still hR hB3
  replace hS := box_still hS hB3
  replace HT := Lib.hid (bt2 HT.out hB3)
  clear hB3
  clear cA0 cA1 cA2 cA3 lA
  clear cB0 cB1 cB2 cB3 lB
  have cA0 : w3.cell? ⟨w.heap.size, 0, none⟩ = some (.bool n0) := cell_blk hA 0
  have cA1 : w3.cell? ⟨w.heap.size, 1, none⟩ = some (.int .u64 h0) := cell_blk hA 1
  have cA2 : w3.cell? ⟨w.heap.size, 2, none⟩ = some (.int .u64 l0) := cell_blk hA 2
  have cA3 : w3.cell? ⟨w.heap.size, 3, none⟩ = some (.int .i64 d0) := cell_blk hA 3
  have lA := blkF hA
  have cB0 : w3.cell? ⟨w.heap.size + 1, 0, none⟩ = some (.bool n1) := cell_blk hB 0
  have cB1 : w3.cell? ⟨w.heap.size + 1, 1, none⟩ = some (.int .u64 h1) := cell_blk hB 1
  have cB2 : w3.cell? ⟨w.heap.size + 1, 2, none⟩ = some (.int .u64 l1) := cell_blk hB 2
  have cB3 : w3.cell? ⟨w.heap.size + 1, 3, none⟩ = some (.int .i64 d1) := cell_blk hB 3
  have lB := blkF hB
  go_wp2_with fail
  refine (specScaleWide n1 h1 l1 d0 hp1 hq1 lp1 lq1 dp0 dq0 _).mono ?_
  have hlS3 := blkF hS
  rintro e w4 ⟨rfl, hB4⟩
  rw [HY.out]
  have hX := box_kept hB4
  have hBB := box_below hB4
  replace hR := box_still hR hBB
  replace hS := box_still hS hBB
  replace HT := Lib.hid (bt2 HT.out hBB)
  clear hB4 hBB
  clear cA0 cA1 cA2 cA3 lA
  clear cB0 cB1 cB2 cB3 lB
  have cX0 : w4.cell? ⟨w3.heap.size, 0, none⟩ = some (.bool m0) := cell_blk hX 0
  have cX1 : w4.cell? ⟨w3.heap.size, 1, none⟩ = some (.int .u64 x0) := cell_blk hX 1
  have cX2 : w4.cell? ⟨w3.heap.size, 2, none⟩ = some (.int .u64 y0) := cell_blk hX 2
  have lX := blkF hX
  go_wp2_with fail
  clear cX0 cX1 cX2 lX
  have hY : (w4.alloc (.cells #[.bool m1, .int .u64 x1, .int .u64 y1] 26)).heap[w4.heap.size]? = some (.cells #[.bool m1, .int .u64 x1, .int .u64 y1] 26 (0, 0)) := box_new _ _
  have hX2 : (w4.alloc (.cells #[.bool m1, .int .u64 x1, .int .u64 y1] 26)).heap[w3.heap.size]? = some (.cells #[.bool m0, .int .u64 x0, .int .u64 y0] 26 (0, 0)) := by
    rw [Below.heap_alloc _ _ _ (blkF hX)]
    exact hX
  have hR2 : (w4.alloc (.cells #[.bool m1, .int .u64 x1, .int .u64 y1] 26)).heap[w.heap.size + 1 + 1]? = some (.cells #[.bool false, .int .u64 0, .int .u64 0] 26 (0, 0)) := by
    rw [Below.heap_alloc _ _ _ (blkF hR)]
    exact hR
  have hS2 : (w4.alloc (.cells #[.bool m1, .int .u64 x1, .int .u64 y1] 26)).heap[w.heap.size + 1 + 1 + 1]? = some (.cells #[.bool false, .int .u64 0, .int .u64 0] 26 (0, 0)) := by
    rw [Below.heap_alloc _ _ _ (blkF hS)]
    exact hS
  have hlX := blkF hX
  have hlR := blkF hR
  have hlS := blkF hS
  have hs3 : w.heap.size + 1 + 1 + 1 < w3.heap.size := by omega
  have HT2 : Hid (Below w.heap.size w (w4.alloc (.cells #[.bool m1, .int .u64 x1, .int .u64 y1] 26))) := Lib.hid (HT.out.alloc HT.out.size _)
  generalize (w4.alloc (.cells #[.bool m1, .int .u64 x1, .int .u64 y1] 26)) = wy at hY hX2 hR2 hS2 HT2 ⊢
  have hDD : wy.drew.cell? ⟨w3.heap.size, 0, none⟩ = some (.bool m0) ∧ wy.drew.cell? ⟨w3.heap.size, 1, none⟩ = some (.int .u64 x0) ∧ wy.drew.cell? ⟨w3.heap.size, 2, none⟩ = some (.int .u64 y0) ∧ wy.drew.cell? ⟨w4.heap.size, 0, none⟩ = some (.bool m1) ∧ wy.drew.cell? ⟨w4.heap.size, 1, none⟩ = some (.int .u64 x1) ∧ wy.drew.cell? ⟨w4.heap.size, 2, none⟩ = some (.int .u64 y1) := ⟨cell_blk (w := wy) hX2 0, cell_blk (w := wy) hX2 1, cell_blk (w := wy) hX2 2, cell_blk (w := wy) hY 0, cell_blk (w := wy) hY 1, cell_blk (w := wy) hY 2⟩
  refine wp_region_noPanic ?_
  refine wp_region_held_drew (S := (fun w' => w'.cell? ⟨w3.heap.size, 0, none⟩ = some (.bool m0) ∧ w'.cell? ⟨w3.heap.size, 1, none⟩ = some (.int .u64 x0) ∧ w'.cell? ⟨w3.heap.size, 2, none⟩ = some (.int .u64 y0) ∧ w'.cell? ⟨w4.heap.size, 0, none⟩ = some (.bool m1) ∧ w'.cell? ⟨w4.heap.size, 1, none⟩ = some (.int .u64 x1) ∧ w'.cell? ⟨w4.heap.size, 2, none⟩ = some (.int .u64 y1))) (by kernel_rfl) hDD (fun hHeld => ?_)
  clear hDD
  have hX3 : wy.drew.heap[w3.heap.size]? = some (.cells #[.bool m0, .int .u64 x0, .int .u64 y0] 26 (0, 0)) := hX2
  have hY3 : wy.drew.heap[w4.heap.size]? = some (.cells #[.bool m1, .int .u64 x1, .int .u64 y1] 26 (0, 0)) := hY
  have hR3 : wy.drew.heap[w.heap.size + 1 + 1]? = some (.cells #[.bool false, .int .u64 0, .int .u64 0] 26 (0, 0)) := hR2
  have hS3 : wy.drew.heap[w.heap.size + 1 + 1 + 1]? = some (.cells #[.bool false, .int .u64 0, .int .u64 0] 26 (0, 0)) := hS2
  have HT3 : Hid (Below w.heap.size w wy.drew) := Lib.hid (Below.drew HT2.out)
  clear hX2 hY hR2 hS2 HT2
  generalize wy.drew = wz at hX3 hY3 hR3 hS3 HT3 hHeld ⊢
  refine wpAnyH_take (i := 0) (oi := ?o8) (v := ?v8) ?hi8 ?hs8 ?hf8 ?hr8 ?hQ8 ?hy8 ?hS8 ?rest8
  case hi8 => rfl
  case hs8 => kernel_rfl
  case hf8 => kernel_rfl
  case hr8 => kernel_rfl
  case hQ8 => exact fun _ _ _ h => h
  case hS8 => assumption
  case hy8 =>
    refine Or.inl ⟨by kernel_rfl, ?_⟩
    intro w' hSw
    (try dsimp only at hSw)
    go_simp
    (try rfl)
  (try simp only [List.getElem_toArray, List.getElem_cons_zero, Act.put, List.setIfInBounds_toArray, List.set_cons_zero, List.set_cons_succ])
  refine wpAnyH_take (i := 1) (oi := ?o9) (v := ?v9) ?hi9 ?hs9 ?hf9 ?hr9 ?hQ9 ?hy9 ?hS9 ?rest9
  case hi9 => rfl
  case hs9 => kernel_rfl
  case hf9 => kernel_rfl
  case hr9 => kernel_rfl
  case hQ9 => exact fun _ _ _ h => h
  case hS9 => assumption
  case hy9 =>
    refine Or.inl ⟨by kernel_rfl, ?_⟩
    intro w' hSw
    (try dsimp only at hSw)
    go_simp
    (try rfl)
  (try simp only [List.getElem_toArray, List.getElem_cons_succ, List.getElem_cons_zero, Act.put, List.setIfInBounds_toArray, List.set_cons_zero, List.set_cons_succ])
  refine wpAnyH_take (i := 2) (oi := ?o10) (v := ?v10) ?hi10 ?hs10 ?hf10 ?hr10 ?hQ10 ?hy10 ?hS10 ?rest10
  case hi10 => rfl
  case hs10 => kernel_rfl
  case hf10 => kernel_rfl
  case hr10 => kernel_rfl
  case hQ10 => exact fun _ _ _ h => h
  case hS10 => assumption
  case hy10 =>
    refine Or.inl ⟨by kernel_rfl, ?_⟩
    intro w' hSw
    (try dsimp only at hSw)
    go_simp
    (try rfl)
  (try simp only [List.getElem_toArray, List.getElem_cons_succ, List.getElem_cons_zero, Act.put, List.setIfInBounds_toArray, List.set_cons_zero, List.set_cons_succ])
  refine wpAnyH_take (i := 3) (oi := ?o11) (v := ?v11) ?hi11 ?hs11 ?hf11 ?hr11 ?hQ11 ?hy11 ?hS11 ?rest11
  case hi11 => rfl
  case hs11 => kernel_rfl
  case hf11 => kernel_rfl
  case hr11 => kernel_rfl
  case hQ11 => exact fun _ _ _ h => h
  case hS11 => assumption
  case hy11 =>
    refine Or.inl ⟨by kernel_rfl, ?_⟩
    intro w' hSw
    (try dsimp only at hSw)
    go_simp
    (try rfl)
  (try simp only [List.getElem_toArray, List.getElem_cons_succ, List.getElem_cons_zero, Act.put, List.setIfInBounds_toArray, List.set_cons_zero, List.set_cons_succ])
  refine wpAnyH_take (i := 4) (oi := ?o12) (v := undef) ?hi12 ?hs12 ?hf12 ?hr12 ?hQ12 ?hy12 ?hS12 ?rest12
  case hi12 => rfl
  case hs12 => kernel_rfl
  case hf12 => kernel_rfl
  case hr12 => kernel_rfl
  case hQ12 => exact fun _ _ _ h => h
  case hS12 => assumption
  case hy12 => exact Or.inr ⟨by kernel_rfl, rfl⟩
  (try simp only [List.getElem_toArray, List.getElem_cons_succ, List.getElem_cons_zero, Act.put, List.setIfInBounds_toArray, List.set_cons_zero, List.set_cons_succ])
  refine wpAnyH_take (i := 5) (oi := ?o13) (v := ?v13) ?hi13 ?hs13 ?hf13 ?hr13 ?hQ13 ?hy13 ?hS13 ?rest13
  case hi13 => rfl
  case hs13 => kernel_rfl
  case hf13 => kernel_rfl
  case hr13 => kernel_rfl
  case hQ13 => exact fun _ _ _ h => h
  case hS13 => assumption
  case hy13 =>
    refine Or.inl ⟨by kernel_rfl, ?_⟩
    intro w' hSw
    (try dsimp only at hSw)
    go_simp
    (try rfl)
  (try simp only [List.getElem_toArray, List.getElem_cons_succ, List.getElem_cons_zero, Act.put, List.setIfInBounds_toArray, List.set_cons_zero, List.set_cons_succ])
  have cR0 : wz.cell? ⟨w.heap.size + 1 + 1, 0, none⟩ = some (.bool false) := cell_blk hR3 0
  have cR1 : wz.cell? ⟨w.heap.size + 1 + 1, 1, none⟩ = some (.int .u64 0) := cell_blk hR3 1
  have cR2 : wz.cell? ⟨w.heap.size + 1 + 1, 2, none⟩ = some (.int .u64 0) := cell_blk hR3 2
  have fR : ∀ k, wz.frozen? ⟨w.heap.size + 1 + 1, k, none⟩ = false := fun k => free_blk hR3 k
  have cS0 : wz.cell? ⟨w.heap.size + 1 + 1 + 1, 0, none⟩ = some (.bool false) := cell_blk hS3 0
  have cS1 : wz.cell? ⟨w.heap.size + 1 + 1 + 1, 1, none⟩ = some (.int .u64 0) := cell_blk hS3 1
  have cS2 : wz.cell? ⟨w.heap.size + 1 + 1 + 1, 2, none⟩ = some (.int .u64 0) := cell_blk hS3 2
  have fS : ∀ k, wz.frozen? ⟨w.heap.size + 1 + 1 + 1, k, none⟩ = false := fun k => free_blk hS3 k
  have HK0 : wz.cell? ⟨w3.heap.size, 0, none⟩ = some (.bool m0) := cell_blk hX3 0
  have HK1 : wz.cell? ⟨w3.heap.size, 1, none⟩ = some (.int .u64 x0) := cell_blk hX3 1
  have HK2 : wz.cell? ⟨w3.heap.size, 2, none⟩ = some (.int .u64 y0) := cell_blk hX3 2
  have HK3 : wz.cell? ⟨w4.heap.size, 0, none⟩ = some (.bool m1) := cell_blk hY3 0
  have HK4 : wz.cell? ⟨w4.heap.size, 1, none⟩ = some (.int .u64 x1) := cell_blk hY3 1
  have HK5 : wz.cell? ⟨w4.heap.size, 2, none⟩ = some (.int .u64 y1) := cell_blk hY3 2
  refine wpAnyH_ready (rs := [6]) (by kernel_rfl) (by simp) ?_
  refine AllReadyH.cons rfl (fun K hK => ?_) AllReadyH.nil
  go_simp
  replace HK0 : (((wz.setCell ⟨w.heap.size + 1 + 1, 0, none⟩ (.bool m0)).setCell ⟨w.heap.size + 1 + 1, 1, none⟩ (.int .u64 x0)).setCell ⟨w.heap.size + 1 + 1, 2, none⟩ (.int .u64 y0)).cell? ⟨w3.heap.size, 0, none⟩ = some (.bool m0) := (st3_far _ _ _ _ _ _ _ (by omega)).trans HK0
  replace HK1 : (((wz.setCell ⟨w.heap.size + 1 + 1, 0, none⟩ (.bool m0)).setCell ⟨w.heap.size + 1 + 1, 1, none⟩ (.int .u64 x0)).setCell ⟨w.heap.size + 1 + 1, 2, none⟩ (.int .u64 y0)).cell? ⟨w3.heap.size, 1, none⟩ = some (.int .u64 x0) := (st3_far _ _ _ _ _ _ _ (by omega)).trans HK1
  replace HK2 : (((wz.setCell ⟨w.heap.size + 1 + 1, 0, none⟩ (.bool m0)).setCell ⟨w.heap.size + 1 + 1, 1, none⟩ (.int .u64 x0)).setCell ⟨w.heap.size + 1 + 1, 2, none⟩ (.int .u64 y0)).cell? ⟨w3.heap.size, 2, none⟩ = some (.int .u64 y0) := (st3_far _ _ _ _ _ _ _ (by omega)).trans HK2
  replace HK3 : (((wz.setCell ⟨w.heap.size + 1 + 1, 0, none⟩ (.bool m0)).setCell ⟨w.heap.size + 1 + 1, 1, none⟩ (.int .u64 x0)).setCell ⟨w.heap.size + 1 + 1, 2, none⟩ (.int .u64 y0)).cell? ⟨w4.heap.size, 0, none⟩ = some (.bool m1) := (st3_far _ _ _ _ _ _ _ (by omega)).trans HK3
  replace HK4 : (((wz.setCell ⟨w.heap.size + 1 + 1, 0, none⟩ (.bool m0)).setCell ⟨w.heap.size + 1 + 1, 1, none⟩ (.int .u64 x0)).setCell ⟨w.heap.size + 1 + 1, 2, none⟩ (.int .u64 y0)).cell? ⟨w4.heap.size, 1, none⟩ = some (.int .u64 x1) := (st3_far _ _ _ _ _ _ _ (by omega)).trans HK4
  replace HK5 : (((wz.setCell ⟨w.heap.size + 1 + 1, 0, none⟩ (.bool m0)).setCell ⟨w.heap.size + 1 + 1, 1, none⟩ (.int .u64 x0)).setCell ⟨w.heap.size + 1 + 1, 2, none⟩ (.int .u64 y0)).cell? ⟨w4.heap.size, 2, none⟩ = some (.int .u64 y1) := (st3_far _ _ _ _ _ _ _ (by omega)).trans HK5
  refine hK.out _ _ ?_ (fun hHeld => ?_)
  · exact ⟨HK0, HK1, HK2, HK3, HK4, HK5⟩
  clear hK K
  (try simp only [List.getElem_toArray, List.getElem_cons_succ, List.getElem_cons_zero, Act.put, List.setIfInBounds_toArray, List.set_cons_zero, List.set_cons_succ])
  replace cS0 : (((wz.setCell ⟨w.heap.size + 1 + 1, 0, none⟩ (.bool m0)).setCell ⟨w.heap.size + 1 + 1, 1, none⟩ (.int .u64 x0)).setCell ⟨w.heap.size + 1 + 1, 2, none⟩ (.int .u64 y0)).cell? ⟨w.heap.size + 1 + 1 + 1, 0, none⟩ = some (.bool false) := (st3_far _ _ _ _ _ _ _ (by omega)).trans cS0
  replace cS1 : (((wz.setCell ⟨w.heap.size + 1 + 1, 0, none⟩ (.bool m0)).setCell ⟨w.heap.size + 1 + 1, 1, none⟩ (.int .u64 x0)).setCell ⟨w.heap.size + 1 + 1, 2, none⟩ (.int .u64 y0)).cell? ⟨w.heap.size + 1 + 1 + 1, 1, none⟩ = some (.int .u64 0) := (st3_far _ _ _ _ _ _ _ (by omega)).trans cS1
  replace cS2 : (((wz.setCell ⟨w.heap.size + 1 + 1, 0, none⟩ (.bool m0)).setCell ⟨w.heap.size + 1 + 1, 1, none⟩ (.int .u64 x0)).setCell ⟨w.heap.size + 1 + 1, 2, none⟩ (.int .u64 y0)).cell? ⟨w.heap.size + 1 + 1 + 1, 2, none⟩ = some (.int .u64 0) := (st3_far _ _ _ _ _ _ _ (by omega)).trans cS2
  replace fS : ∀ k, (((wz.setCell ⟨w.heap.size + 1 + 1, 0, none⟩ (.bool m0)).setCell ⟨w.heap.size + 1 + 1, 1, none⟩ (.int .u64 x0)).setCell ⟨w.heap.size + 1 + 1, 2, none⟩ (.int .u64 y0)).frozen? ⟨w.heap.size + 1 + 1 + 1, k, none⟩ = false := fun k => (st3_frozen _ _ _ _ _ _).trans (fS k)
  refine wpAnyH_ready (rs := [7]) (by kernel_rfl) (by simp) ?_
  refine AllReadyH.cons rfl (fun K hK => ?_) AllReadyH.nil
  go_simp
  replace HK0 : ((((((wz.setCell ⟨w.heap.size + 1 + 1, 0, none⟩ (.bool m0)).setCell ⟨w.heap.size + 1 + 1, 1, none⟩ (.int .u64 x0)).setCell ⟨w.heap.size + 1 + 1, 2, none⟩ (.int .u64 y0)).setCell ⟨w.heap.size + 1 + 1 + 1, 0, none⟩ (.bool m1)).setCell ⟨w.heap.size + 1 + 1 + 1, 1, none⟩ (.int .u64 x1)).setCell ⟨w.heap.size + 1 + 1 + 1, 2, none⟩ (.int .u64 y1)).cell? ⟨w3.heap.size, 0, none⟩ = some (.bool m0) := (st3_far _ _ _ _ _ _ _ (by omega)).trans HK0
  replace HK1 : ((((((wz.setCell ⟨w.heap.size + 1 + 1, 0, none⟩ (.bool m0)).setCell ⟨w.heap.size + 1 + 1, 1, none⟩ (.int .u64 x0)).setCell ⟨w.heap.size + 1 + 1, 2, none⟩ (.int .u64 y0)).setCell ⟨w.heap.size + 1 + 1 + 1, 0, none⟩ (.bool m1)).setCell ⟨w.heap.size + 1 + 1 + 1, 1, none⟩ (.int .u64 x1)).setCell ⟨w.heap.size + 1 + 1 + 1, 2, none⟩ (.int .u64 y1)).cell? ⟨w3.heap.size, 1, none⟩ = some (.int .u64 x0) := (st3_far _ _ _ _ _ _ _ (by omega)).trans HK1
  replace HK2 : ((((((wz.setCell ⟨w.heap.size + 1 + 1, 0, none⟩ (.bool m0)).setCell ⟨w.heap.size + 1 + 1, 1, none⟩ (.int .u64 x0)).setCell ⟨w.heap.size + 1 + 1, 2, none⟩ (.int .u64 y0)).setCell ⟨w.heap.size + 1 + 1 + 1, 0, none⟩ (.bool m1)).setCell ⟨w.heap.size + 1 + 1 + 1, 1, none⟩ (.int .u64 x1)).setCell ⟨w.heap.size + 1 + 1 + 1, 2, none⟩ (.int .u64 y1)).cell? ⟨w3.heap.size, 2, none⟩ = some (.int .u64 y0) := (st3_far _ _ _ _ _ _ _ (by omega)).trans HK2
  replace HK3 : ((((((wz.setCell ⟨w.heap.size + 1 + 1, 0, none⟩ (.bool m0)).setCell ⟨w.heap.size + 1 + 1, 1, none⟩ (.int .u64 x0)).setCell ⟨w.heap.size + 1 + 1, 2, none⟩ (.int .u64 y0)).setCell ⟨w.heap.size + 1 + 1 + 1, 0, none⟩ (.bool m1)).setCell ⟨w.heap.size + 1 + 1 + 1, 1, none⟩ (.int .u64 x1)).setCell ⟨w.heap.size + 1 + 1 + 1, 2, none⟩ (.int .u64 y1)).cell? ⟨w4.heap.size, 0, none⟩ = some (.bool m1) := (st3_far _ _ _ _ _ _ _ (by omega)).trans HK3
  replace HK4 : ((((((wz.setCell ⟨w.heap.size + 1 + 1, 0, none⟩ (.bool m0)).setCell ⟨w.heap.size + 1 + 1, 1, none⟩ (.int .u64 x0)).setCell ⟨w.heap.size + 1 + 1, 2, none⟩ (.int .u64 y0)).setCell ⟨w.heap.size + 1 + 1 + 1, 0, none⟩ (.bool m1)).setCell ⟨w.heap.size + 1 + 1 + 1, 1, none⟩ (.int .u64 x1)).setCell ⟨w.heap.size + 1 + 1 + 1, 2, none⟩ (.int .u64 y1)).cell? ⟨w4.heap.size, 1, none⟩ = some (.int .u64 x1) := (st3_far _ _ _ _ _ _ _ (by omega)).trans HK4
  replace HK5 : ((((((wz.setCell ⟨w.heap.size + 1 + 1, 0, none⟩ (.bool m0)).setCell ⟨w.heap.size + 1 + 1, 1, none⟩ (.int .u64 x0)).setCell ⟨w.heap.size + 1 + 1, 2, none⟩ (.int .u64 y0)).setCell ⟨w.heap.size + 1 + 1 + 1, 0, none⟩ (.bool m1)).setCell ⟨w.heap.size + 1 + 1 + 1, 1, none⟩ (.int .u64 x1)).setCell ⟨w.heap.size + 1 + 1 + 1, 2, none⟩ (.int .u64 y1)).cell? ⟨w4.heap.size, 2, none⟩ = some (.int .u64 y1) := (st3_far _ _ _ _ _ _ _ (by omega)).trans HK5
  refine hK.out _ _ ?_ (fun hHeld => ?_)
  · exact ⟨HK0, HK1, HK2, HK3, HK4, HK5⟩
  clear hK K
  (try simp only [List.getElem_toArray, List.getElem_cons_succ, List.getElem_cons_zero, Act.put, List.setIfInBounds_toArray, List.set_cons_zero, List.set_cons_succ])
  have k1 := st3_at wz (w.heap.size + 1 + 1) (.bool m0) (.int .u64 x0) (.int .u64 y0) _ _ _ cR0 cR1 cR2
  have k2 := st3_at (((wz.setCell ⟨w.heap.size + 1 + 1, 0, none⟩ (.bool m0)).setCell ⟨w.heap.size + 1 + 1, 1, none⟩ (.int .u64 x0)).setCell ⟨w.heap.size + 1 + 1, 2, none⟩ (.int .u64 y0)) (w.heap.size + 1 + 1 + 1) (.bool m1) (.int .u64 x1) (.int .u64 y1) _ _ _ cS0 cS1 cS2
  have e0 : ((((((wz.setCell ⟨w.heap.size + 1 + 1, 0, none⟩ (.bool m0)).setCell ⟨w.heap.size + 1 + 1, 1, none⟩ (.int .u64 x0)).setCell ⟨w.heap.size + 1 + 1, 2, none⟩ (.int .u64 y0)).setCell ⟨w.heap.size + 1 + 1 + 1, 0, none⟩ (.bool m1)).setCell ⟨w.heap.size + 1 + 1 + 1, 1, none⟩ (.int .u64 x1)).setCell ⟨w.heap.size + 1 + 1 + 1, 2, none⟩ (.int .u64 y1)).cell? ⟨w.heap.size + 1 + 1, 0, none⟩ = some (.bool m0) := (st3_far _ _ _ _ _ _ _ (by omega)).trans k1.1
  have e1 : ((((((wz.setCell ⟨w.heap.size + 1 + 1, 0, none⟩ (.bool m0)).setCell ⟨w.heap.size + 1 + 1, 1, none⟩ (.int .u64 x0)).setCell ⟨w.heap.size + 1 + 1, 2, none⟩ (.int .u64 y0)).setCell ⟨w.heap.size + 1 + 1 + 1, 0, none⟩ (.bool m1)).setCell ⟨w.heap.size + 1 + 1 + 1, 1, none⟩ (.int .u64 x1)).setCell ⟨w.heap.size + 1 + 1 + 1, 2, none⟩ (.int .u64 y1)).cell? ⟨w.heap.size + 1 + 1, 1, none⟩ = some (.int .u64 x0) := (st3_far _ _ _ _ _ _ _ (by omega)).trans k1.2.1
  have e2 : ((((((wz.setCell ⟨w.heap.size + 1 + 1, 0, none⟩ (.bool m0)).setCell ⟨w.heap.size + 1 + 1, 1, none⟩ (.int .u64 x0)).setCell ⟨w.heap.size + 1 + 1, 2, none⟩ (.int .u64 y0)).setCell ⟨w.heap.size + 1 + 1 + 1, 0, none⟩ (.bool m1)).setCell ⟨w.heap.size + 1 + 1 + 1, 1, none⟩ (.int .u64 x1)).setCell ⟨w.heap.size + 1 + 1 + 1, 2, none⟩ (.int .u64 y1)).cell? ⟨w.heap.size + 1 + 1, 2, none⟩ = some (.int .u64 y0) := (st3_far _ _ _ _ _ _ _ (by omega)).trans k1.2.2
  have e3 : ((((((wz.setCell ⟨w.heap.size + 1 + 1, 0, none⟩ (.bool m0)).setCell ⟨w.heap.size + 1 + 1, 1, none⟩ (.int .u64 x0)).setCell ⟨w.heap.size + 1 + 1, 2, none⟩ (.int .u64 y0)).setCell ⟨w.heap.size + 1 + 1 + 1, 0, none⟩ (.bool m1)).setCell ⟨w.heap.size + 1 + 1 + 1, 1, none⟩ (.int .u64 x1)).setCell ⟨w.heap.size + 1 + 1 + 1, 2, none⟩ (.int .u64 y1)).cell? ⟨w.heap.size + 1 + 1 + 1, 0, none⟩ = some (.bool m1) := k2.1
  have e4 : ((((((wz.setCell ⟨w.heap.size + 1 + 1, 0, none⟩ (.bool m0)).setCell ⟨w.heap.size + 1 + 1, 1, none⟩ (.int .u64 x0)).setCell ⟨w.heap.size + 1 + 1, 2, none⟩ (.int .u64 y0)).setCell ⟨w.heap.size + 1 + 1 + 1, 0, none⟩ (.bool m1)).setCell ⟨w.heap.size + 1 + 1 + 1, 1, none⟩ (.int .u64 x1)).setCell ⟨w.heap.size + 1 + 1 + 1, 2, none⟩ (.int .u64 y1)).cell? ⟨w.heap.size + 1 + 1 + 1, 1, none⟩ = some (.int .u64 x1) := k2.2.1
  have e5 : ((((((wz.setCell ⟨w.heap.size + 1 + 1, 0, none⟩ (.bool m0)).setCell ⟨w.heap.size + 1 + 1, 1, none⟩ (.int .u64 x0)).setCell ⟨w.heap.size + 1 + 1, 2, none⟩ (.int .u64 y0)).setCell ⟨w.heap.size + 1 + 1 + 1, 0, none⟩ (.bool m1)).setCell ⟨w.heap.size + 1 + 1 + 1, 1, none⟩ (.int .u64 x1)).setCell ⟨w.heap.size + 1 + 1 + 1, 2, none⟩ (.int .u64 y1)).cell? ⟨w.heap.size + 1 + 1 + 1, 2, none⟩ = some (.int .u64 y1) := k2.2.2
  clear k1 k2
  clear HK0 HK1 HK2 HK3 HK4 HK5 cR0 cR1 cR2 cS0 cS1 cS2 fR fS
  refine wpAnyH_take (i := 8) (oi := ?o14) (v := ?v14) ?hi14 ?hs14 ?hf14 ?hr14 ?hQ14 ?hy14 ?hS14 ?rest14
  case hi14 => rfl
  case hs14 => kernel_rfl
  case hf14 => kernel_rfl
  case hr14 => kernel_rfl
  case hQ14 => exact fun _ _ _ h => h
  case hS14 => assumption
  case hy14 =>
    refine Or.inl ⟨by kernel_rfl, ?_⟩
    intro w' hSw
    (try dsimp only at hSw)
    go_simp
    (try rfl)
  (try simp only [List.getElem_toArray, List.getElem_cons_succ, List.getElem_cons_zero, Act.put, List.setIfInBounds_toArray, List.set_cons_zero, List.set_cons_succ])
  refine wpAnyH_done (by kernel_rfl) ?_ _
  refine NoPanic.normal ?_
  go_wp2_with fail
  (try simp only [Exit.inBlock, Exit.then])
  refine bodyPost_ret (v := .tuple #[.agg #[.bool m0, .int .u64 x0, .int .u64 y0], .agg #[.bool m1, .int .u64 x1, .int .u64 y1], .bool false]) ?_ rfl ⟨rfl, ?_⟩
  · rw [results_cells2_tmp rfl]
    go_simp
  · exact st3_below (st3_below HT3.out (by omega) _ _ _) (by omega) _ _ _
end Go.Proofs.YtapdocfifgnjgaaDoor
