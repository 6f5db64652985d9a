
/-
  The order and the sum of fractions: the program's way.
-/
import Derived.Test.YtapdocfifgnjgaaDoorI5B
import Derived.Test.YtapdocfifgnjgaaDoorPk9
import Derived.Test.YtapdocfifgnjgaaDoorImpE
import Derived.Test.YtapdocfifgnjgaaDoorPk6
namespace Go.Proofs.YtapdocfifgnjgaaDoor
open Go.RowKit

/-- The program's two ways of two fractions over one denominator, with the parts. -/
theorem implCross_parts (n0 : Bool) (h0 l0 d0 : Int) (n1 : Bool) (h1 l1 d1 : Int) (hp0 : 0 ≤ h0) (hq0 : h0 < 18446744073709551616) (lp0 : 0 ≤ l0) (lq0 : l0 < 18446744073709551616) (dp0 : -9223372036854775808 ≤ d0) (dq0 : d0 ≤ 9223372036854775807) (hp1 : 0 ≤ h1) (hq1 : h1 < 18446744073709551616) (lp1 : 0 ≤ l1) (lq1 : l1 < 18446744073709551616) (dp1 : -9223372036854775808 ≤ d1) (dq1 : d1 ≤ 9223372036854775807) :
    (∃ (m0 : Bool) (x0 y0 : Int) (m1 : Bool) (x1 y1 : Int), ((0 ≤ x0 ∧ x0 < 18446744073709551616) ∧ (0 ≤ y0 ∧ y0 < 18446744073709551616) ∧ (0 ≤ x1 ∧ x1 < 18446744073709551616) ∧ (0 ≤ y1 ∧ y1 < 18446744073709551616)) ∧ CrossOk n0 h0 l0 d0 n1 h1 l1 d1 ∧ (∀ w, Calls Tryd.prog 22 #[.agg #[.bool n0, .int .u64 h0, .int .u64 l0, .int .i64 d0], .agg #[.bool n1, .int .u64 h1, .int .u64 l1, .int .i64 d1]] w fun e w' => e = .returned (.tuple #[.agg #[.bool m0, .int .u64 x0, .int .u64 y0], .agg #[.bool m1, .int .u64 x1, .int .u64 y1], .bool true]) ∧ Below w.heap.size w w') ∧ wideC (sv n0 (h0 * 18446744073709551616 + l0) * d1) = .agg #[.bool m0, .int .u64 x0, .int .u64 y0] ∧ wideC (sv n1 (h1 * 18446744073709551616 + l1) * d0) = .agg #[.bool m1, .int .u64 x1, .int .u64 y1] ∧ sv m0 (x0 * 18446744073709551616 + y0) = sv n0 (h0 * 18446744073709551616 + l0) * d1 ∧ sv m1 (x1 * 18446744073709551616 + y1) = sv n1 (h1 * 18446744073709551616 + l1) * d0) ∨
    (¬ CrossOk n0 h0 l0 d0 n1 h1 l1 d1 ∧ (∀ w, Calls Tryd.prog 22 #[.agg #[.bool n0, .int .u64 h0, .int .u64 l0, .int .i64 d0], .agg #[.bool n1, .int .u64 h1, .int .u64 l1, .int .i64 d1]] w fun e w' => e = .returned (.tuple #[.agg #[.bool false, .int .u64 0, .int .u64 0], .agg #[.bool false, .int .u64 0, .int .u64 0], .bool false]) ∧ Below w.heap.size w w')) := by
  by_cases hA : okF n0 h0 l0 d0 = true
  · by_cases hB : okF n1 h1 l1 d1 = true
    · obtain ⟨m0, x0, y0, u0, s0, hX, hXo⟩ := fitC_shape (sv n0 (h0 * 18446744073709551616 + l0) * d1)
      obtain ⟨m1, x1, y1, u1, s1, hY, hYo⟩ := fitC_shape (sv n1 (h1 * 18446744073709551616 + l1) * d0)
      have HX : scaleE n0 h0 l0 d1 = .returned (.tuple #[.agg #[.bool m0, .int .u64 x0, .int .u64 y0], .bool (fitB (sv n0 (h0 * 18446744073709551616 + l0) * d1))]) := by rw [scaleE, if_pos (okF_yes hA).1, fitW_CB, hX]
      have HY : scaleE n1 h1 l1 d0 = .returned (.tuple #[.agg #[.bool m1, .int .u64 x1, .int .u64 y1], .bool (fitB (sv n1 (h1 * 18446744073709551616 + l1) * d0))]) := by rw [scaleE, if_pos (okF_yes hB).1, fitW_CB, hY]
      cases hx : fitB (sv n0 (h0 * 18446744073709551616 + l0) * d1) with
      | false =>
        rw [hx] at HX
        exact Or.inr ⟨fun k => fitB_no hx k.2.2.1, implCross_nx n0 h0 l0 d0 n1 h1 l1 d1 hp0 hq0 lp0 lq0 dp0 dq0 hp1 hq1 lp1 lq1 dp1 dq1 (Lib.hid hA) (Lib.hid hB) m0 m1 _ x0 y0 x1 y1 (Lib.hid HX) (Lib.hid HY)⟩
      | true =>
        rw [hx] at HX
        cases hy : fitB (sv n1 (h1 * 18446744073709551616 + l1) * d0) with
        | false =>
          rw [hy] at HY
          exact Or.inr ⟨fun k => fitB_no hy k.2.2.2, implCross_ny n0 h0 l0 d0 n1 h1 l1 d1 hp0 hq0 lp0 lq0 dp0 dq0 hp1 hq1 lp1 lq1 dp1 dq1 (Lib.hid hA) (Lib.hid hB) m0 m1 x0 y0 x1 y1 (Lib.hid HX) (Lib.hid HY)⟩
        | true =>
          rw [hy] at HY
          exact Or.inl ⟨m0, x0, y0, m1, x1, y1, ⟨u0, s0, u1, s1⟩, ⟨hA, hB, fitB_yes hx, fitB_yes hy⟩, implCross_yes n0 h0 l0 d0 n1 h1 l1 d1 hp0 hq0 lp0 lq0 dp0 dq0 hp1 hq1 lp1 lq1 dp1 dq1 (Lib.hid hA) (Lib.hid hB) m0 m1 x0 y0 x1 y1 (Lib.hid HX) (Lib.hid HY), (hXo hx).2.2, (hYo hy).2.2, (hXo hx).2.1, (hYo hy).2.1⟩
    · exact Or.inr ⟨fun k => hB k.2.1, implCross_b n0 h0 l0 d0 n1 h1 l1 d1 hp0 hq0 lp0 lq0 dp0 dq0 hp1 hq1 lp1 lq1 dp1 dq1 (Lib.hid hA) (Lib.hid (by simpa using hB))⟩
  · exact Or.inr ⟨fun k => hA k.1, implCross_a n0 h0 l0 d0 n1 h1 l1 d1 hp0 hq0 lp0 lq0 dp0 dq0 (Lib.hid (by simpa using hA))⟩
set_option maxRecDepth 100000 in
set_option maxHeartbeats 1000000 in
theorem implAddF_no (n0 : Bool) (h0 l0 d0 : Int) (n1 : Bool) (h1 l1 d1 : Int) (HC : ∀ w, Calls Tryd.prog 22 #[.agg #[.bool n0, .int .u64 h0, .int .u64 l0, .int .i64 d0], .agg #[.bool n1, .int .u64 h1, .int .u64 l1, .int .i64 d1]] w fun e w' => e = .returned (.tuple #[.agg #[.bool false, .int .u64 0, .int .u64 0], .agg #[.bool false, .int .u64 0, .int .u64 0], .bool false]) ∧ Below w.heap.size w w') (w : World) :
    Calls Tryd.prog 8 #[.agg #[.bool n0, .int .u64 h0, .int .u64 l0, .int .i64 d0], .agg #[.bool n1, .int .u64 h1, .int .u64 l1, .int .i64 d1]] w fun e w' => e = .returned (.tuple #[.agg #[.bool false, .int .u64 0, .int .u64 0, .int .i64 0], .bool false]) ∧ Below w.heap.size w w' := by
  go_enter Tryd.func8, Tryd.ntmps8
  go_wp2_with fail
  refine (HC _).mono ?_
  rintro e w1 ⟨rfl, hB1⟩
  obtain ⟨hA, hB, hR, hBB, hs1⟩ := box3 hB1
  have HT := Lib.hid hBB
  clear hBB hB1
  have hR2 : ((w1.alloc (.cells #[.bool false, .int .u64 0, .int .u64 0] 26)).alloc (.cells #[.bool false, .int .u64 0, .int .u64 0] 26)).heap[w.heap.size + 1 + 1]? = some (.cells #[.bool false, .int .u64 0, .int .u64 0, .int .i64 0] 28 (0, 0)) := blkAl (blkAl hR _) _
  have cR0 : ((w1.alloc (.cells #[.bool false, .int .u64 0, .int .u64 0] 26)).alloc (.cells #[.bool false, .int .u64 0, .int .u64 0] 26)).cell? ⟨w.heap.size + 1 + 1, 0, none⟩ = some (.bool false) := cell_blk hR2 0
  have cR1 : ((w1.alloc (.cells #[.bool false, .int .u64 0, .int .u64 0] 26)).alloc (.cells #[.bool false, .int .u64 0, .int .u64 0] 26)).cell? ⟨w.heap.size + 1 + 1, 1, none⟩ = some (.int .u64 0) := cell_blk hR2 1
  have cR2 : ((w1.alloc (.cells #[.bool false, .int .u64 0, .int .u64 0] 26)).alloc (.cells #[.bool false, .int .u64 0, .int .u64 0] 26)).cell? ⟨w.heap.size + 1 + 1, 2, none⟩ = some (.int .u64 0) := cell_blk hR2 2
  have cR3 : ((w1.alloc (.cells #[.bool false, .int .u64 0, .int .u64 0] 26)).alloc (.cells #[.bool false, .int .u64 0, .int .u64 0] 26)).cell? ⟨w.heap.size + 1 + 1, 3, none⟩ = some (.int .i64 0) := cell_blk hR2 3
  have fR2 : ∀ k, ((w1.alloc (.cells #[.bool false, .int .u64 0, .int .u64 0] 26)).alloc (.cells #[.bool false, .int .u64 0, .int .u64 0] 26)).frozen? ⟨w.heap.size + 1 + 1, k, none⟩ = false := fun k => free_blk hR2 k
  go_wp2_with fail
  all_goals (try simp only [Exit.inBlock, Exit.then])
  all_goals refine bodyPost_ret (v := .tuple #[.agg #[.bool false, .int .u64 0, .int .u64 0, .int .i64 0], .bool false]) ?_ rfl ⟨rfl, ?_⟩
  all_goals first
    | (rw [results_cell_tmp rfl]; go_simp; done)
    | (repeat' (first | refine Below.setCell ?_ (by simp <;> omega) _ | refine Below.alloc ?_ (by have := HT.out.size; simp; omega) _ | exact HT.out))
set_option maxRecDepth 100000 in
set_option maxHeartbeats 1000000 in
theorem implAddF_big (n0 : Bool) (h0 l0 d0 : Int) (n1 : Bool) (h1 l1 d1 : Int) (m0 m1 : Bool) (x0 y0 x1 y1 : Int) (u0 : 0 ≤ x0) (_v0 : x0 < 18446744073709551616) (s0 : 0 ≤ y0) (t0 : y0 < 18446744073709551616) (u1 : 0 ≤ x1) (_v1 : x1 < 18446744073709551616) (s1 : 0 ≤ y1) (t1 : y1 < 18446744073709551616) (HC : ∀ w, Calls Tryd.prog 22 #[.agg #[.bool n0, .int .u64 h0, .int .u64 l0, .int .i64 d0], .agg #[.bool n1, .int .u64 h1, .int .u64 l1, .int .i64 d1]] w fun e w' => e = .returned (.tuple #[.agg #[.bool m0, .int .u64 x0, .int .u64 y0], .agg #[.bool m1, .int .u64 x1, .int .u64 y1], .bool true]) ∧ Below w.heap.size w w') (m2 : Bool) (x2 y2 : Int) (HS : Hid (addE m0 x0 y0 m1 x1 y1 = .returned (.tuple #[.agg #[.bool m2, .int .u64 x2, .int .u64 y2], .bool false]))) (w : World) :
    Calls Tryd.prog 8 #[.agg #[.bool n0, .int .u64 h0, .int .u64 l0, .int .i64 d0], .agg #[.bool n1, .int .u64 h1, .int .u64 l1, .int .i64 d1]] w fun e w' => e = .returned (.tuple #[.agg #[.bool false, .int .u64 0, .int .u64 0, .int .i64 0], .bool false]) ∧ Below w.heap.size w w' := by
  go_enter Tryd.func8, Tryd.ntmps8
  go_wp2_with fail
  refine (HC _).mono ?_
  rintro e w1 ⟨rfl, hB1⟩
  obtain ⟨hA, hB, hR, hBB, hs1⟩ := box3 hB1
  have HT := Lib.hid hBB
  clear hBB hB1
  go_wp2_with fail
  refine (implAddWide m0 x0 y0 m1 x1 y1 u0 u1 s0 t0 s1 t1 _).mono ?_
  rintro e w2 ⟨rfl, hB2⟩
  rw [HS.out]
  obtain ⟨hX, hY, hBB, _⟩ := box2 hB2
  replace hA := box_still hA hBB
  replace hB := box_still hB hBB
  replace hR := box_still hR hBB
  replace HT := Lib.hid (bt2 HT.out hBB)
  clear hBB hB2
  have cR0 : w2.cell? ⟨w.heap.size + 1 + 1, 0, none⟩ = some (.bool false) := cell_blk hR 0
  have cR1 : w2.cell? ⟨w.heap.size + 1 + 1, 1, none⟩ = some (.int .u64 0) := cell_blk hR 1
  have cR2 : w2.cell? ⟨w.heap.size + 1 + 1, 2, none⟩ = some (.int .u64 0) := cell_blk hR 2
  have cR3 : w2.cell? ⟨w.heap.size + 1 + 1, 3, none⟩ = some (.int .i64 0) := cell_blk hR 3
  have fR := free_blk hR
  have lR := blkF hR
  have fR2 : ∀ k, (w2.alloc (.cells #[.bool m2, .int .u64 x2, .int .u64 y2] 26)).frozen? ⟨w.heap.size + 1 + 1, k, none⟩ = false := fun k => free_blk (blkAl hR _) k
  go_wp2_with fail
  all_goals (try simp only [Exit.inBlock, Exit.then])
  all_goals refine bodyPost_ret (v := .tuple #[.agg #[.bool false, .int .u64 0, .int .u64 0, .int .i64 0], .bool false]) ?_ rfl ⟨rfl, ?_⟩
  all_goals first
    | (rw [results_cell_tmp rfl]; go_simp; done)
    | (repeat' (first | refine Below.setCell ?_ (by simp <;> omega) _ | refine Below.alloc ?_ (by have := HT.out.size; simp; omega) _ | exact HT.out))
set_option maxRecDepth 100000 in
set_option maxHeartbeats 1000000 in
theorem implAddF_yes (n0 : Bool) (h0 l0 d0 : Int) (n1 : Bool) (h1 l1 d1 : Int) (m0 m1 : Bool) (x0 y0 x1 y1 : Int) (u0 : 0 ≤ x0) (_v0 : x0 < 18446744073709551616) (s0 : 0 ≤ y0) (t0 : y0 < 18446744073709551616) (u1 : 0 ≤ x1) (_v1 : x1 < 18446744073709551616) (s1 : 0 ≤ y1) (t1 : y1 < 18446744073709551616) (HC : ∀ w, Calls Tryd.prog 22 #[.agg #[.bool n0, .int .u64 h0, .int .u64 l0, .int .i64 d0], .agg #[.bool n1, .int .u64 h1, .int .u64 l1, .int .i64 d1]] w fun e w' => e = .returned (.tuple #[.agg #[.bool m0, .int .u64 x0, .int .u64 y0], .agg #[.bool m1, .int .u64 x1, .int .u64 y1], .bool true]) ∧ Below w.heap.size w w') (m2 : Bool) (x2 y2 p : Int) (z0 : 0 ≤ x2) (z1 : x2 < 18446744073709551616) (z2 : 0 ≤ y2) (z3 : y2 < 18446744073709551616) (z4 : -9223372036854775808 ≤ p) (z5 : p ≤ 9223372036854775807) (HS : Hid (addE m0 x0 y0 m1 x1 y1 = .returned (.tuple #[.agg #[.bool m2, .int .u64 x2, .int .u64 y2], .bool true]))) (hp : d0 * d1 = p) (hw : IntKind.i64.wrap p = p) (HK : Hid (okF m2 x2 y2 p = true)) (w : World) :
    Calls Tryd.prog 8 #[.agg #[.bool n0, .int .u64 h0, .int .u64 l0, .int .i64 d0], .agg #[.bool n1, .int .u64 h1, .int .u64 l1, .int .i64 d1]] w fun e w' => e = .returned (.tuple #[.agg #[.bool m2, .int .u64 x2, .int .u64 y2, .int .i64 p], .bool true]) ∧ Below w.heap.size w w' := by
  go_enter Tryd.func8, Tryd.ntmps8
  go_wp2_with fail
  refine (HC _).mono ?_
  rintro e w1 ⟨rfl, hB1⟩
  obtain ⟨hA, hB, hR, hBB, hs1⟩ := box3 hB1
  have HT := Lib.hid hBB
  clear hBB hB1
  go_wp2_with fail
  refine (implAddWide m0 x0 y0 m1 x1 y1 u0 u1 s0 t0 s1 t1 _).mono ?_
  rintro e w2 ⟨rfl, hB2⟩
  rw [HS.out]
  obtain ⟨hX, hY, hBB, _⟩ := box2 hB2
  replace hA := box_still hA hBB
  replace hB := box_still hB hBB
  replace hR := box_still hR hBB
  replace HT := Lib.hid (bt2 HT.out hBB)
  clear hBB hB2
  have cA0 : w2.cell? ⟨w.heap.size, 0, none⟩ = some (.bool n0) := cell_blk hA 0
  have cA1 : w2.cell? ⟨w.heap.size, 1, none⟩ = some (.int .u64 h0) := cell_blk hA 1
  have cA2 : w2.cell? ⟨w.heap.size, 2, none⟩ = some (.int .u64 l0) := cell_blk hA 2
  have cA3 : w2.cell? ⟨w.heap.size, 3, none⟩ = some (.int .i64 d0) := cell_blk hA 3
  have lA := blkF hA
  have cB0 : w2.cell? ⟨w.heap.size + 1, 0, none⟩ = some (.bool n1) := cell_blk hB 0
  have cB1 : w2.cell? ⟨w.heap.size + 1, 1, none⟩ = some (.int .u64 h1) := cell_blk hB 1
  have cB2 : w2.cell? ⟨w.heap.size + 1, 2, none⟩ = some (.int .u64 l1) := cell_blk hB 2
  have cB3 : w2.cell? ⟨w.heap.size + 1, 3, none⟩ = some (.int .i64 d1) := cell_blk hB 3
  have lB := blkF hB
  go_wp2_with fail
  refine (implIf_yes m2 x2 y2 p z0 z1 z2 z3 z4 z5 HK _).mono ?_
  rintro e w3 ⟨rfl, hB3⟩
  have hBB := box_below hB3
  replace hR := box_still hR hBB
  replace HT := Lib.hid (bt2 HT.out hBB)
  clear hBB hB3
  clear cA0 cA1 cA2 cA3 lA
  clear cB0 cB1 cB2 cB3 lB
  have cR0 : w3.cell? ⟨w.heap.size + 1 + 1, 0, none⟩ = some (.bool false) := cell_blk hR 0
  have cR1 : w3.cell? ⟨w.heap.size + 1 + 1, 1, none⟩ = some (.int .u64 0) := cell_blk hR 1
  have cR2 : w3.cell? ⟨w.heap.size + 1 + 1, 2, none⟩ = some (.int .u64 0) := cell_blk hR 2
  have cR3 : w3.cell? ⟨w.heap.size + 1 + 1, 3, none⟩ = some (.int .i64 0) := cell_blk hR 3
  have fR := free_blk hR
  have lR := blkF hR
  go_wp2_with fail
  all_goals (try simp only [Exit.inBlock, Exit.then])
  all_goals refine bodyPost_ret (v := .tuple #[.agg #[.bool m2, .int .u64 x2, .int .u64 y2, .int .i64 p], .bool true]) ?_ rfl ⟨rfl, ?_⟩
  all_goals first
    | (rw [results_cell_tmp rfl]; go_simp; done)
    | (repeat' (first | refine Below.setCell ?_ (by simp <;> omega) _ | refine Below.alloc ?_ (by have := HT.out.size; simp; omega) _ | exact HT.out))
set_option maxRecDepth 100000 in
set_option maxHeartbeats 1000000 in
theorem implAddF_den (n0 : Bool) (h0 l0 d0 : Int) (n1 : Bool) (h1 l1 d1 : Int) (m0 m1 : Bool) (x0 y0 x1 y1 : Int) (u0 : 0 ≤ x0) (_v0 : x0 < 18446744073709551616) (s0 : 0 ≤ y0) (t0 : y0 < 18446744073709551616) (u1 : 0 ≤ x1) (_v1 : x1 < 18446744073709551616) (s1 : 0 ≤ y1) (t1 : y1 < 18446744073709551616) (HC : ∀ w, Calls Tryd.prog 22 #[.agg #[.bool n0, .int .u64 h0, .int .u64 l0, .int .i64 d0], .agg #[.bool n1, .int .u64 h1, .int .u64 l1, .int .i64 d1]] w fun e w' => e = .returned (.tuple #[.agg #[.bool m0, .int .u64 x0, .int .u64 y0], .agg #[.bool m1, .int .u64 x1, .int .u64 y1], .bool true]) ∧ Below w.heap.size w w') (m2 : Bool) (x2 y2 p : Int) (z0 : 0 ≤ x2) (z1 : x2 < 18446744073709551616) (z2 : 0 ≤ y2) (z3 : y2 < 18446744073709551616) (z4 : -9223372036854775808 ≤ p) (z5 : p ≤ 9223372036854775807) (HS : Hid (addE m0 x0 y0 m1 x1 y1 = .returned (.tuple #[.agg #[.bool m2, .int .u64 x2, .int .u64 y2], .bool true]))) (hp : d0 * d1 = p) (hw : IntKind.i64.wrap p = p) (HK : Hid (okF m2 x2 y2 p = false)) (w : World) :
    Calls Tryd.prog 8 #[.agg #[.bool n0, .int .u64 h0, .int .u64 l0, .int .i64 d0], .agg #[.bool n1, .int .u64 h1, .int .u64 l1, .int .i64 d1]] w fun e w' => e = .returned (.tuple #[.agg #[.bool false, .int .u64 0, .int .u64 0, .int .i64 0], .bool false]) ∧ Below w.heap.size w w' := by
  go_enter Tryd.func8, Tryd.ntmps8
  go_wp2_with fail
  refine (HC _).mono ?_
  rintro e w1 ⟨rfl, hB1⟩
  obtain ⟨hA, hB, hR, hBB, hs1⟩ := box3 hB1
  have HT := Lib.hid hBB
  clear hBB hB1
  go_wp2_with fail
  refine (implAddWide m0 x0 y0 m1 x1 y1 u0 u1 s0 t0 s1 t1 _).mono ?_
  rintro e w2 ⟨rfl, hB2⟩
  rw [HS.out]
  obtain ⟨hX, hY, hBB, _⟩ := box2 hB2
  replace hA := box_still hA hBB
  replace hB := box_still hB hBB
  replace hR := box_still hR hBB
  replace HT := Lib.hid (bt2 HT.out hBB)
  clear hBB hB2
  have cA0 : w2.cell? ⟨w.heap.size, 0, none⟩ = some (.bool n0) := cell_blk hA 0
  have cA1 : w2.cell? ⟨w.heap.size, 1, none⟩ = some (.int .u64 h0) := cell_blk hA 1
  have cA2 : w2.cell? ⟨w.heap.size, 2, none⟩ = some (.int .u64 l0) := cell_blk hA 2
  have cA3 : w2.cell? ⟨w.heap.size, 3, none⟩ = some (.int .i64 d0) := cell_blk hA 3
  have lA := blkF hA
  have cB0 : w2.cell? ⟨w.heap.size + 1, 0, none⟩ = some (.bool n1) := cell_blk hB 0
  have cB1 : w2.cell? ⟨w.heap.size + 1, 1, none⟩ = some (.int .u64 h1) := cell_blk hB 1
  have cB2 : w2.cell? ⟨w.heap.size + 1, 2, none⟩ = some (.int .u64 l1) := cell_blk hB 2
  have cB3 : w2.cell? ⟨w.heap.size + 1, 3, none⟩ = some (.int .i64 d1) := cell_blk hB 3
  have lB := blkF hB
  go_wp2_with fail
  refine (implIf_no m2 x2 y2 p z0 z1 z2 z3 z4 z5 HK _).mono ?_
  rintro e w3 ⟨rfl, hB3⟩
  have hBB := box_below hB3
  replace hR := box_still hR hBB
  replace HT := Lib.hid (bt2 HT.out hBB)
  clear hBB hB3
  clear cA0 cA1 cA2 cA3 lA
  clear cB0 cB1 cB2 cB3 lB
  have cR0 : w3.cell? ⟨w.heap.size + 1 + 1, 0, none⟩ = some (.bool false) := cell_blk hR 0
  have cR1 : w3.cell? ⟨w.heap.size + 1 + 1, 1, none⟩ = some (.int .u64 0) := cell_blk hR 1
  have cR2 : w3.cell? ⟨w.heap.size + 1 + 1, 2, none⟩ = some (.int .u64 0) := cell_blk hR 2
  have cR3 : w3.cell? ⟨w.heap.size + 1 + 1, 3, none⟩ = some (.int .i64 0) := cell_blk hR 3
  have fR := free_blk hR
  have lR := blkF hR
  go_wp2_with fail
  all_goals (try simp only [Exit.inBlock, Exit.then])
  all_goals refine bodyPost_ret (v := .tuple #[.agg #[.bool false, .int .u64 0, .int .u64 0, .int .i64 0], .bool false]) ?_ rfl ⟨rfl, ?_⟩
  all_goals first
    | (rw [results_cell_tmp rfl]; go_simp; done)
    | (repeat' (first | refine Below.setCell ?_ (by simp <;> omega) _ | refine Below.alloc ?_ (by have := HT.out.size; simp; omega) _ | exact HT.out))
/-- THE SUM. -/
theorem implAddFrac (n0 : Bool) (h0 l0 d0 : Int) (n1 : Bool) (h1 l1 d1 : Int) (hp0 : 0 ≤ h0) (hq0 : h0 < 18446744073709551616) (lp0 : 0 ≤ l0) (lq0 : l0 < 18446744073709551616) (dp0 : -9223372036854775808 ≤ d0) (dq0 : d0 ≤ 9223372036854775807) (hp1 : 0 ≤ h1) (hq1 : h1 < 18446744073709551616) (lp1 : 0 ≤ l1) (lq1 : l1 < 18446744073709551616) (dp1 : -9223372036854775808 ≤ d1) (dq1 : d1 ≤ 9223372036854775807) (w : World) :
    Calls Tryd.prog 8 #[.agg #[.bool n0, .int .u64 h0, .int .u64 l0, .int .i64 d0], .agg #[.bool n1, .int .u64 h1, .int .u64 l1, .int .i64 d1]] w fun e w' => e = addFE n0 h0 l0 d0 n1 h1 l1 d1 ∧ Below w.heap.size w w' := by
  rcases implCross_parts n0 h0 l0 d0 n1 h1 l1 d1 hp0 hq0 lp0 lq0 dp0 dq0 hp1 hq1 lp1 lq1 dp1 dq1 with ⟨m0, x0, y0, m1, x1, y1, ⟨u0, s0, u1, s1⟩, hk, hc, hX, hY, eX, eY⟩ | ⟨hk, hc⟩
  · have k0 := (okF_yes hk.1).2
    have k1 := (okF_yes hk.2.1).2
    have hp := den_mul k0.1 k0.2 k1.1 k1.2
    obtain ⟨m2, x2, y2, z0, z1, hZ, hZo⟩ := fitC_shape (sv n0 (h0 * 18446744073709551616 + l0) * d1 + sv n1 (h1 * 18446744073709551616 + l1) * d0)
    have hS : addE m0 x0 y0 m1 x1 y1 = .returned (.tuple #[.agg #[.bool m2, .int .u64 x2, .int .u64 y2], .bool (fitB (sv n0 (h0 * 18446744073709551616 + l0) * d1 + sv n1 (h1 * 18446744073709551616 + l1) * d0))]) := by rw [wideC_addE hk.2.2.1 hk.2.2.2 hX hY, fitW_CB, hZ]
    have hw : IntKind.i64.wrap (d0 * d1) = d0 * d1 := by rw [IntKind.wrap_i64]; omega
    cases hz : fitB (sv n0 (h0 * 18446744073709551616 + l0) * d1 + sv n1 (h1 * 18446744073709551616 + l1) * d0) with
    | false =>
      rw [hz] at hS
      rw [addFE, if_neg (fun k => fitB_no hz k.2.1)]
      exact implAddF_big n0 h0 l0 d0 n1 h1 l1 d1 m0 m1 x0 y0 x1 y1 u0.1 u0.2 s0.1 s0.2 u1.1 u1.2 s1.1 s1.2 hc m2 x2 y2 (Lib.hid hS) w
    | true =>
      rw [hz] at hS
      by_cases hd : d0 * d1 ≤ 1000000
      · rw [addFE, if_pos ⟨hk, fitB_yes hz, hd⟩, fracV_of (hZo hz).2.2]
        exact implAddF_yes n0 h0 l0 d0 n1 h1 l1 d1 m0 m1 x0 y0 x1 y1 u0.1 u0.2 s0.1 s0.2 u1.1 u1.2 s1.1 s1.2 hc m2 x2 y2 (d0 * d1) z0.1 z0.2 z1.1 z1.2 (by omega) (by omega) (Lib.hid hS) rfl hw (Lib.hid (okF_mk (hZo hz).1 hp.1 hd)) w
      · rw [addFE, if_neg (fun k => hd k.2.2)]
        exact implAddF_den n0 h0 l0 d0 n1 h1 l1 d1 m0 m1 x0 y0 x1 y1 u0.1 u0.2 s0.1 s0.2 u1.1 u1.2 s1.1 s1.2 hc m2 x2 y2 (d0 * d1) z0.1 z0.2 z1.1 z1.2 (by omega) (by omega) (Lib.hid hS) rfl hw (Lib.hid (by rw [okF, (hZo hz).1, decide_eq_false (fun k => hd k.2)]; rfl)) w
  · rw [addFE, if_neg (fun k => hk k.1)]
    exact implAddF_no n0 h0 l0 d0 n1 h1 l1 d1 hc w
end Go.Proofs.YtapdocfifgnjgaaDoor
