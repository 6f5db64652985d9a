
/-
  The sum and the order of fractions: the reference's way.
-/
import Derived.Test.YtapdocfifgnjgaaDoorFracC
import Derived.Test.YtapdocfifgnjgaaDoorImpE
namespace Go.Proofs.YtapdocfifgnjgaaDoor
open Go.RowKit

theorem blkAl {w : World} {b : Nat} {cs : Array Value} {T : TypeId} (h : w.heap[b]? = some (.cells cs T (0, 0))) (o : Obj) : (w.alloc o).heap[b]? = some (.cells cs T (0, 0)) := by
  rw [Below.heap_alloc _ _ _ (blkF h)]
  exact h
open Classical in
noncomputable def fitC (z : Int) : Value := if RoomW z then wideC z else .agg #[.bool false, .int .u64 0, .int .u64 0]
open Classical in
noncomputable def fitB (z : Int) : Bool := if RoomW z then true else false
theorem fitW_CB (z : Int) : fitW z = .returned (.tuple #[fitC z, .bool (fitB z)]) := by
  by_cases h : RoomW z
  · rw [fitW, if_pos h, fitC, if_pos h, fitB, if_pos h]
  · rw [fitW, if_neg h, fitC, if_neg h, fitB, if_neg h]
theorem fitB_yes {z : Int} (h : fitB z = true) : RoomW z := by
  by_cases k : RoomW z
  · exact k
  · rw [fitB, if_neg k] at h; cases h
theorem fitB_no {z : Int} (h : fitB z = false) : ¬ RoomW z := by
  intro k
  rw [fitB, if_pos k] at h; cases h
theorem fitC_shape (z : Int) : ∃ (n : Bool) (h l : Int), (0 ≤ h ∧ h < 18446744073709551616) ∧ (0 ≤ l ∧ l < 18446744073709551616) ∧ fitC z = .agg #[.bool n, .int .u64 h, .int .u64 l] ∧ (fitB z = true → okV n h l = true ∧ sv n (h * 18446744073709551616 + l) = z ∧ wideC z = .agg #[.bool n, .int .u64 h, .int .u64 l]) := by
  by_cases k : RoomW z
  · obtain ⟨n, h, l, hW⟩ : ∃ (n : Bool) (h l : Int), wideC z = .agg #[.bool n, .int .u64 h, .int .u64 l] := ⟨_, _, _, rfl⟩
    have q := wideC_bounds hW
    refine ⟨n, h, l, ⟨q.1, q.2.2.2 k⟩, ⟨q.2.1, q.2.2.1⟩, by rw [fitC, if_pos k, hW], fun _ => ?_⟩
    have e := hW
    simp only [wideC, Value.agg.injEq, Array.mk.injEq, List.cons.injEq, Value.bool.injEq, Value.int.injEq, and_true, true_and] at e
    obtain ⟨e0, e1, e2⟩ := e
    rw [← e0, ← e1, ← e2]
    exact ⟨wideC_ok k, wideC_sv z, rfl⟩
  · exact ⟨false, 0, 0, by omega, by omega, by rw [fitC, if_neg k], fun h => absurd (fitB_yes h) k⟩
/-- What two fractions over one denominator end in. -/
noncomputable def crossE (n0 : Bool) (h0 l0 d0 : Int) (n1 : Bool) (h1 l1 d1 : Int) : Ending :=
  if okF n0 h0 l0 d0 = true ∧ okF n1 h1 l1 d1 = true then .returned (.tuple #[fitC (sv n0 (h0 * 18446744073709551616 + l0) * d1), fitC (sv n1 (h1 * 18446744073709551616 + l1) * d0), .bool (fitB (sv n0 (h0 * 18446744073709551616 + l0) * d1) && fitB (sv n1 (h1 * 18446744073709551616 + l1) * d0))]) else .returned (.tuple #[.agg #[.bool false, .int .u64 0, .int .u64 0], .agg #[.bool false, .int .u64 0, .int .u64 0], .bool false])
theorem specCross (n0 : Bool) (h0 l0 d0 : Int) (n1 : Bool) (h1 l1 d1 : Int) (hp0 : 0 ≤ h0) (hq0 : h0 < 18446744073709551616) (lp0 : 0 ≤ l0) (lq0 : l0 < 18446744073709551616) (dp0 : -9223372036854775808 ≤ d0) (dq0 : d0 ≤ 9223372036854775807) (hp1 : 0 ≤ h1) (hq1 : h1 < 18446744073709551616) (lp1 : 0 ≤ l1) (lq1 : l1 < 18446744073709551616) (dp1 : -9223372036854775808 ≤ d1) (dq1 : d1 ≤ 9223372036854775807) (w : World) :
    Calls Tryd.prog 25 #[.agg #[.bool n0, .int .u64 h0, .int .u64 l0, .int .i64 d0], .agg #[.bool n1, .int .u64 h1, .int .u64 l1, .int .i64 d1]] w fun e w' => e = crossE n0 h0 l0 d0 n1 h1 l1 d1 ∧ Below w.heap.size w w' := by
  by_cases hA : okF n0 h0 l0 d0 = true
  · by_cases hB : okF n1 h1 l1 d1 = true
    · rw [crossE, if_pos ⟨hA, hB⟩]
      obtain ⟨m0, x0, y0, _, _, hX, _⟩ := fitC_shape (sv n0 (h0 * 18446744073709551616 + l0) * d1)
      obtain ⟨m1, x1, y1, _, _, hY, _⟩ := fitC_shape (sv n1 (h1 * 18446744073709551616 + l1) * d0)
      rw [hX, hY]
      have HX : scaleE n0 h0 l0 d1 = .returned (.tuple #[.agg #[.bool m0, .int .u64 x0, .int .u64 y0], .bool (fitB (sv n0 (h0 * 18446744073709551616 + l0) * d1))]) := by rw [scaleE, if_pos (okF_yes hA).1, fitW_CB, hX]
      have HY : scaleE n1 h1 l1 d0 = .returned (.tuple #[.agg #[.bool m1, .int .u64 x1, .int .u64 y1], .bool (fitB (sv n1 (h1 * 18446744073709551616 + l1) * d0))]) := by rw [scaleE, if_pos (okF_yes hB).1, fitW_CB, hY]
      cases hb : fitB (sv n0 (h0 * 18446744073709551616 + l0) * d1) with
      | true =>
        rw [hb] at HX
        exact specCross_true n0 h0 l0 d0 n1 h1 l1 d1 hp0 hq0 lp0 lq0 dp0 dq0 hp1 hq1 lp1 lq1 dp1 dq1 (Lib.hid hA) (Lib.hid hB) m0 m1 _ x0 y0 x1 y1 (Lib.hid HX) (Lib.hid HY) w
      | false =>
        rw [hb] at HX
        exact specCross_false n0 h0 l0 d0 n1 h1 l1 d1 hp0 hq0 lp0 lq0 dp0 dq0 hp1 hq1 lp1 lq1 dp1 dq1 (Lib.hid hA) (Lib.hid hB) m0 m1 _ x0 y0 x1 y1 (Lib.hid HX) (Lib.hid HY) w
    · rw [crossE, if_neg (fun k => hB k.2)]
      exact specCross_b n0 h0 l0 d0 n1 h1 l1 d1 (Lib.hid hA) (Lib.hid (by simpa using hB)) w
  · rw [crossE, if_neg (fun k => hA k.1)]
    exact specCross_a n0 h0 l0 d0 n1 h1 l1 d1 (Lib.hid (by simpa using hA)) w
set_option maxRecDepth 100000 in
set_option maxHeartbeats 1000000 in
theorem specAddF_no (n0 : Bool) (h0 l0 d0 : Int) (n1 : Bool) (h1 l1 d1 : Int) (hp0 : 0 ≤ h0) (hq0 : h0 < 18446744073709551616) (lp0 : 0 ≤ l0) (lq0 : l0 < 18446744073709551616) (dp0 : -9223372036854775808 ≤ d0) (dq0 : d0 ≤ 9223372036854775807) (hp1 : 0 ≤ h1) (hq1 : h1 < 18446744073709551616) (lp1 : 0 ≤ l1) (lq1 : l1 < 18446744073709551616) (dp1 : -9223372036854775808 ≤ d1) (dq1 : d1 ≤ 9223372036854775807) (m0 m1 : Bool) (x0 y0 x1 y1 : Int) (HC : Hid (crossE n0 h0 l0 d0 n1 h1 l1 d1 = .returned (.tuple #[.agg #[.bool m0, .int .u64 x0, .int .u64 y0], .agg #[.bool m1, .int .u64 x1, .int .u64 y1], .bool false]))) (w : World) :
    Calls Tryd.prog 9 #[.agg #[.bool n0, .int .u64 h0, .int .u64 l0, .int .i64 d0], .agg #[.bool n1, .int .u64 h1, .int .u64 l1, .int .i64 d1]] w fun e w' => e = .returned (.tuple #[.agg #[.bool false, .int .u64 0, .int .u64 0, .int .i64 0], .bool false]) ∧ Below w.heap.size w w' := by
  go_enter Tryd.func9, Tryd.ntmps9
  go_wp2_with fail
  refine (specCross n0 h0 l0 d0 n1 h1 l1 d1 hp0 hq0 lp0 lq0 dp0 dq0 hp1 hq1 lp1 lq1 dp1 dq1 _).mono ?_
  rintro e w1 ⟨rfl, hB1⟩
  rw [HC.out]
  obtain ⟨hA, hB, hR, hBB, hs1⟩ := box3 hB1
  have HT := Lib.hid hBB
  clear hBB hB1
  have hR2 : ((w1.alloc (.cells #[.bool m0, .int .u64 x0, .int .u64 y0] 26)).alloc (.cells #[.bool m1, .int .u64 x1, .int .u64 y1] 26)).heap[w.heap.size + 1 + 1]? = some (.cells #[.bool false, .int .u64 0, .int .u64 0, .int .i64 0] 28 (0, 0)) := blkAl (blkAl hR _) _
  have cR0 : ((w1.alloc (.cells #[.bool m0, .int .u64 x0, .int .u64 y0] 26)).alloc (.cells #[.bool m1, .int .u64 x1, .int .u64 y1] 26)).cell? ⟨w.heap.size + 1 + 1, 0, none⟩ = some (.bool false) := cell_blk hR2 0
  have cR1 : ((w1.alloc (.cells #[.bool m0, .int .u64 x0, .int .u64 y0] 26)).alloc (.cells #[.bool m1, .int .u64 x1, .int .u64 y1] 26)).cell? ⟨w.heap.size + 1 + 1, 1, none⟩ = some (.int .u64 0) := cell_blk hR2 1
  have cR2 : ((w1.alloc (.cells #[.bool m0, .int .u64 x0, .int .u64 y0] 26)).alloc (.cells #[.bool m1, .int .u64 x1, .int .u64 y1] 26)).cell? ⟨w.heap.size + 1 + 1, 2, none⟩ = some (.int .u64 0) := cell_blk hR2 2
  have cR3 : ((w1.alloc (.cells #[.bool m0, .int .u64 x0, .int .u64 y0] 26)).alloc (.cells #[.bool m1, .int .u64 x1, .int .u64 y1] 26)).cell? ⟨w.heap.size + 1 + 1, 3, none⟩ = some (.int .i64 0) := cell_blk hR2 3
  have fR2 : ∀ k, ((w1.alloc (.cells #[.bool m0, .int .u64 x0, .int .u64 y0] 26)).alloc (.cells #[.bool m1, .int .u64 x1, .int .u64 y1] 26)).frozen? ⟨w.heap.size + 1 + 1, k, none⟩ = false := fun k => free_blk hR2 k
  go_wp2_with fail
  all_goals (try simp only [Exit.inBlock, Exit.then])
  all_goals refine bodyPost_ret (v := .tuple #[.agg #[.bool false, .int .u64 0, .int .u64 0, .int .i64 0], .bool false]) ?_ rfl ⟨rfl, ?_⟩
  all_goals first
    | (rw [results_cell_tmp rfl]; go_simp; done)
    | (repeat' (first | refine Below.setCell ?_ (by simp <;> omega) _ | refine Below.alloc ?_ (by have := HT.out.size; simp; omega) _ | exact HT.out))
set_option maxRecDepth 100000 in
set_option maxHeartbeats 1000000 in
theorem specAddF_big (n0 : Bool) (h0 l0 d0 : Int) (n1 : Bool) (h1 l1 d1 : Int) (hp0 : 0 ≤ h0) (hq0 : h0 < 18446744073709551616) (lp0 : 0 ≤ l0) (lq0 : l0 < 18446744073709551616) (dp0 : -9223372036854775808 ≤ d0) (dq0 : d0 ≤ 9223372036854775807) (hp1 : 0 ≤ h1) (hq1 : h1 < 18446744073709551616) (lp1 : 0 ≤ l1) (lq1 : l1 < 18446744073709551616) (dp1 : -9223372036854775808 ≤ d1) (dq1 : d1 ≤ 9223372036854775807) (m0 m1 : Bool) (x0 y0 x1 y1 : Int) (u0 : 0 ≤ x0) (_v0 : x0 < 18446744073709551616) (s0 : 0 ≤ y0) (t0 : y0 < 18446744073709551616) (u1 : 0 ≤ x1) (_v1 : x1 < 18446744073709551616) (s1 : 0 ≤ y1) (t1 : y1 < 18446744073709551616) (HC : Hid (crossE n0 h0 l0 d0 n1 h1 l1 d1 = .returned (.tuple #[.agg #[.bool m0, .int .u64 x0, .int .u64 y0], .agg #[.bool m1, .int .u64 x1, .int .u64 y1], .bool true]))) (m2 : Bool) (x2 y2 p : Int) (HS : Hid (addE m0 x0 y0 m1 x1 y1 = .returned (.tuple #[.agg #[.bool m2, .int .u64 x2, .int .u64 y2], .bool false]))) (_w0 : 1 ≤ d0) (_w1' : d0 ≤ 1000000) (_w2' : 1 ≤ d1) (_w3' : d1 ≤ 1000000) (hp : d0 * d1 = p) (hw : IntKind.i64.wrap p = p) (_r0 : 1 ≤ p) (_r1 : p ≤ 1000000000000) (w : World) :
    Calls Tryd.prog 9 #[.agg #[.bool n0, .int .u64 h0, .int .u64 l0, .int .i64 d0], .agg #[.bool n1, .int .u64 h1, .int .u64 l1, .int .i64 d1]] w fun e w' => e = .returned (.tuple #[.agg #[.bool false, .int .u64 0, .int .u64 0, .int .i64 0], .bool false]) ∧ Below w.heap.size w w' := by
  go_enter Tryd.func9, Tryd.ntmps9
  go_wp2_with fail
  refine (specCross n0 h0 l0 d0 n1 h1 l1 d1 hp0 hq0 lp0 lq0 dp0 dq0 hp1 hq1 lp1 lq1 dp1 dq1 _).mono ?_
  rintro e w1 ⟨rfl, hB1⟩
  rw [HC.out]
  obtain ⟨hA, hB, hR, hBB, hs1⟩ := box3 hB1
  have HT := Lib.hid hBB
  clear hBB hB1
  go_wp2_with fail
  refine (specAddWide m0 x0 y0 m1 x1 y1 u0 u1 s0 t0 s1 t1 _).mono ?_
  rintro e w2 ⟨rfl, hB2⟩
  rw [HS.out]
  obtain ⟨hX, hY, hBB, _⟩ := box2 hB2
  replace hA := box_still hA hBB
  replace hB := box_still hB hBB
  replace hR := box_still hR hBB
  replace HT := Lib.hid (bt2 HT.out hBB)
  clear hBB hB2
  have cA0 : w2.cell? ⟨w.heap.size, 0, none⟩ = some (.bool n0) := cell_blk hA 0
  have cA1 : w2.cell? ⟨w.heap.size, 1, none⟩ = some (.int .u64 h0) := cell_blk hA 1
  have cA2 : w2.cell? ⟨w.heap.size, 2, none⟩ = some (.int .u64 l0) := cell_blk hA 2
  have cA3 : w2.cell? ⟨w.heap.size, 3, none⟩ = some (.int .i64 d0) := cell_blk hA 3
  have lA := blkF hA
  have cB0 : w2.cell? ⟨w.heap.size + 1, 0, none⟩ = some (.bool n1) := cell_blk hB 0
  have cB1 : w2.cell? ⟨w.heap.size + 1, 1, none⟩ = some (.int .u64 h1) := cell_blk hB 1
  have cB2 : w2.cell? ⟨w.heap.size + 1, 2, none⟩ = some (.int .u64 l1) := cell_blk hB 2
  have cB3 : w2.cell? ⟨w.heap.size + 1, 3, none⟩ = some (.int .i64 d1) := cell_blk hB 3
  have lB := blkF hB
  have cR0 : w2.cell? ⟨w.heap.size + 1 + 1, 0, none⟩ = some (.bool false) := cell_blk hR 0
  have cR1 : w2.cell? ⟨w.heap.size + 1 + 1, 1, none⟩ = some (.int .u64 0) := cell_blk hR 1
  have cR2 : w2.cell? ⟨w.heap.size + 1 + 1, 2, none⟩ = some (.int .u64 0) := cell_blk hR 2
  have cR3 : w2.cell? ⟨w.heap.size + 1 + 1, 3, none⟩ = some (.int .i64 0) := cell_blk hR 3
  have fR := free_blk hR
  have lR := blkF hR
  have fR2 : ∀ k, ((w2.alloc (.cells #[.bool m2, .int .u64 x2, .int .u64 y2] 26)).alloc (.cells #[.bool m2, .int .u64 x2, .int .u64 y2, .int .i64 p] 28)).frozen? ⟨w.heap.size + 1 + 1, k, none⟩ = false := fun k => free_blk (blkAl (blkAl hR _) _) k
  go_wp2_with fail
  all_goals (try simp only [Exit.inBlock, Exit.then])
  all_goals refine bodyPost_ret (v := .tuple #[.agg #[.bool false, .int .u64 0, .int .u64 0, .int .i64 0], .bool false]) ?_ rfl ⟨rfl, ?_⟩
  all_goals first
    | (rw [results_cell_tmp rfl]; go_simp; done)
    | (repeat' (first | refine Below.setCell ?_ (by simp <;> omega) _ | refine Below.alloc ?_ (by have := HT.out.size; simp; omega) _ | exact HT.out))
set_option maxRecDepth 100000 in
set_option maxHeartbeats 1000000 in
theorem specAddF_yes (n0 : Bool) (h0 l0 d0 : Int) (n1 : Bool) (h1 l1 d1 : Int) (hp0 : 0 ≤ h0) (hq0 : h0 < 18446744073709551616) (lp0 : 0 ≤ l0) (lq0 : l0 < 18446744073709551616) (dp0 : -9223372036854775808 ≤ d0) (dq0 : d0 ≤ 9223372036854775807) (hp1 : 0 ≤ h1) (hq1 : h1 < 18446744073709551616) (lp1 : 0 ≤ l1) (lq1 : l1 < 18446744073709551616) (dp1 : -9223372036854775808 ≤ d1) (dq1 : d1 ≤ 9223372036854775807) (m0 m1 : Bool) (x0 y0 x1 y1 : Int) (u0 : 0 ≤ x0) (_v0 : x0 < 18446744073709551616) (s0 : 0 ≤ y0) (t0 : y0 < 18446744073709551616) (u1 : 0 ≤ x1) (_v1 : x1 < 18446744073709551616) (s1 : 0 ≤ y1) (t1 : y1 < 18446744073709551616) (HC : Hid (crossE n0 h0 l0 d0 n1 h1 l1 d1 = .returned (.tuple #[.agg #[.bool m0, .int .u64 x0, .int .u64 y0], .agg #[.bool m1, .int .u64 x1, .int .u64 y1], .bool true]))) (m2 : Bool) (x2 y2 p : Int) (HS : Hid (addE m0 x0 y0 m1 x1 y1 = .returned (.tuple #[.agg #[.bool m2, .int .u64 x2, .int .u64 y2], .bool true]))) (_w0 : 1 ≤ d0) (_w1' : d0 ≤ 1000000) (_w2' : 1 ≤ d1) (_w3' : d1 ≤ 1000000) (hp : d0 * d1 = p) (hw : IntKind.i64.wrap p = p) (_r0 : 1 ≤ p) (_r1 : p ≤ 1000000000000) (HK : Hid (okF m2 x2 y2 p = true)) (w : World) :
    Calls Tryd.prog 9 #[.agg #[.bool n0, .int .u64 h0, .int .u64 l0, .int .i64 d0], .agg #[.bool n1, .int .u64 h1, .int .u64 l1, .int .i64 d1]] w fun e w' => e = .returned (.tuple #[.agg #[.bool m2, .int .u64 x2, .int .u64 y2, .int .i64 p], .bool true]) ∧ Below w.heap.size w w' := by
  go_enter Tryd.func9, Tryd.ntmps9
  go_wp2_with fail
  refine (specCross n0 h0 l0 d0 n1 h1 l1 d1 hp0 hq0 lp0 lq0 dp0 dq0 hp1 hq1 lp1 lq1 dp1 dq1 _).mono ?_
  rintro e w1 ⟨rfl, hB1⟩
  rw [HC.out]
  obtain ⟨hA, hB, hR, hBB, hs1⟩ := box3 hB1
  have HT := Lib.hid hBB
  clear hBB hB1
  go_wp2_with fail
  refine (specAddWide m0 x0 y0 m1 x1 y1 u0 u1 s0 t0 s1 t1 _).mono ?_
  rintro e w2 ⟨rfl, hB2⟩
  rw [HS.out]
  obtain ⟨hX, hY, hBB, _⟩ := box2 hB2
  replace hA := box_still hA hBB
  replace hB := box_still hB hBB
  replace hR := box_still hR hBB
  replace HT := Lib.hid (bt2 HT.out hBB)
  clear hBB hB2
  have cA0 : w2.cell? ⟨w.heap.size, 0, none⟩ = some (.bool n0) := cell_blk hA 0
  have cA1 : w2.cell? ⟨w.heap.size, 1, none⟩ = some (.int .u64 h0) := cell_blk hA 1
  have cA2 : w2.cell? ⟨w.heap.size, 2, none⟩ = some (.int .u64 l0) := cell_blk hA 2
  have cA3 : w2.cell? ⟨w.heap.size, 3, none⟩ = some (.int .i64 d0) := cell_blk hA 3
  have lA := blkF hA
  have cB0 : w2.cell? ⟨w.heap.size + 1, 0, none⟩ = some (.bool n1) := cell_blk hB 0
  have cB1 : w2.cell? ⟨w.heap.size + 1, 1, none⟩ = some (.int .u64 h1) := cell_blk hB 1
  have cB2 : w2.cell? ⟨w.heap.size + 1, 2, none⟩ = some (.int .u64 l1) := cell_blk hB 2
  have cB3 : w2.cell? ⟨w.heap.size + 1, 3, none⟩ = some (.int .i64 d1) := cell_blk hB 3
  have lB := blkF hB
  have cR0 : w2.cell? ⟨w.heap.size + 1 + 1, 0, none⟩ = some (.bool false) := cell_blk hR 0
  have cR1 : w2.cell? ⟨w.heap.size + 1 + 1, 1, none⟩ = some (.int .u64 0) := cell_blk hR 1
  have cR2 : w2.cell? ⟨w.heap.size + 1 + 1, 2, none⟩ = some (.int .u64 0) := cell_blk hR 2
  have cR3 : w2.cell? ⟨w.heap.size + 1 + 1, 3, none⟩ = some (.int .i64 0) := cell_blk hR 3
  have fR := free_blk hR
  have lR := blkF hR
  have fR2 : ∀ k, ((w2.alloc (.cells #[.bool m2, .int .u64 x2, .int .u64 y2] 26)).alloc (.cells #[.bool m2, .int .u64 x2, .int .u64 y2, .int .i64 p] 28)).frozen? ⟨w.heap.size + 1 + 1, k, none⟩ = false := fun k => free_blk (blkAl (blkAl hR _) _) k
  go_wp2_with fail
  refine (specFracOk m2 x2 y2 p _).mono ?_
  rintro e w3 ⟨rfl, hB3⟩
  rw [HK.out]
  obtain ⟨_, hO, hBB, _⟩ := box2 hB3
  replace hR := box_still hR hBB
  replace HT := Lib.hid (bt2 HT.out hBB)
  clear hBB hB3
  clear cA0 cA1 cA2 cA3 lA
  clear cB0 cB1 cB2 cB3 lB
  clear cR0 cR1 cR2 cR3 fR lR
  clear fR2
  have cO0 : w3.cell? ⟨w2.heap.size + 1, 0, none⟩ = some (.bool m2) := cell_blk hO 0
  have cO1 : w3.cell? ⟨w2.heap.size + 1, 1, none⟩ = some (.int .u64 x2) := cell_blk hO 1
  have cO2 : w3.cell? ⟨w2.heap.size + 1, 2, none⟩ = some (.int .u64 y2) := cell_blk hO 2
  have cO3 : w3.cell? ⟨w2.heap.size + 1, 3, none⟩ = some (.int .i64 p) := cell_blk hO 3
  have lO := blkF hO
  have cR0 : w3.cell? ⟨w.heap.size + 1 + 1, 0, none⟩ = some (.bool false) := cell_blk hR 0
  have cR1 : w3.cell? ⟨w.heap.size + 1 + 1, 1, none⟩ = some (.int .u64 0) := cell_blk hR 1
  have cR2 : w3.cell? ⟨w.heap.size + 1 + 1, 2, none⟩ = some (.int .u64 0) := cell_blk hR 2
  have cR3 : w3.cell? ⟨w.heap.size + 1 + 1, 3, none⟩ = some (.int .i64 0) := cell_blk hR 3
  have fR := free_blk hR
  have lR := blkF hR
  go_wp2_with fail
  all_goals (try simp only [Exit.inBlock, Exit.then])
  all_goals refine bodyPost_ret (v := .tuple #[.agg #[.bool m2, .int .u64 x2, .int .u64 y2, .int .i64 p], .bool true]) ?_ rfl ⟨rfl, ?_⟩
  all_goals first
    | (rw [results_cell_tmp rfl]; go_simp; done)
    | (repeat' (first | refine Below.setCell ?_ (by simp <;> omega) _ | refine Below.alloc ?_ (by have := HT.out.size; simp; omega) _ | exact HT.out))
set_option maxRecDepth 100000 in
set_option maxHeartbeats 1000000 in
theorem specAddF_den (n0 : Bool) (h0 l0 d0 : Int) (n1 : Bool) (h1 l1 d1 : Int) (hp0 : 0 ≤ h0) (hq0 : h0 < 18446744073709551616) (lp0 : 0 ≤ l0) (lq0 : l0 < 18446744073709551616) (dp0 : -9223372036854775808 ≤ d0) (dq0 : d0 ≤ 9223372036854775807) (hp1 : 0 ≤ h1) (hq1 : h1 < 18446744073709551616) (lp1 : 0 ≤ l1) (lq1 : l1 < 18446744073709551616) (dp1 : -9223372036854775808 ≤ d1) (dq1 : d1 ≤ 9223372036854775807) (m0 m1 : Bool) (x0 y0 x1 y1 : Int) (u0 : 0 ≤ x0) (_v0 : x0 < 18446744073709551616) (s0 : 0 ≤ y0) (t0 : y0 < 18446744073709551616) (u1 : 0 ≤ x1) (_v1 : x1 < 18446744073709551616) (s1 : 0 ≤ y1) (t1 : y1 < 18446744073709551616) (HC : Hid (crossE n0 h0 l0 d0 n1 h1 l1 d1 = .returned (.tuple #[.agg #[.bool m0, .int .u64 x0, .int .u64 y0], .agg #[.bool m1, .int .u64 x1, .int .u64 y1], .bool true]))) (m2 : Bool) (x2 y2 p : Int) (HS : Hid (addE m0 x0 y0 m1 x1 y1 = .returned (.tuple #[.agg #[.bool m2, .int .u64 x2, .int .u64 y2], .bool true]))) (_w0 : 1 ≤ d0) (_w1' : d0 ≤ 1000000) (_w2' : 1 ≤ d1) (_w3' : d1 ≤ 1000000) (hp : d0 * d1 = p) (hw : IntKind.i64.wrap p = p) (_r0 : 1 ≤ p) (_r1 : p ≤ 1000000000000) (HK : Hid (okF m2 x2 y2 p = false)) (w : World) :
    Calls Tryd.prog 9 #[.agg #[.bool n0, .int .u64 h0, .int .u64 l0, .int .i64 d0], .agg #[.bool n1, .int .u64 h1, .int .u64 l1, .int .i64 d1]] w fun e w' => e = .returned (.tuple #[.agg #[.bool false, .int .u64 0, .int .u64 0, .int .i64 0], .bool false]) ∧ Below w.heap.size w w' := by
  go_enter Tryd.func9, Tryd.ntmps9
  go_wp2_with fail
  refine (specCross n0 h0 l0 d0 n1 h1 l1 d1 hp0 hq0 lp0 lq0 dp0 dq0 hp1 hq1 lp1 lq1 dp1 dq1 _).mono ?_
  rintro e w1 ⟨rfl, hB1⟩
  rw [HC.out]
  obtain ⟨hA, hB, hR, hBB, hs1⟩ := box3 hB1
  have HT := Lib.hid hBB
  clear hBB hB1
  go_wp2_with fail
  refine (specAddWide m0 x0 y0 m1 x1 y1 u0 u1 s0 t0 s1 t1 _).mono ?_
  rintro e w2 ⟨rfl, hB2⟩
  rw [HS.out]
  obtain ⟨hX, hY, hBB, _⟩ := box2 hB2
  replace hA := box_still hA hBB
  replace hB := box_still hB hBB
  replace hR := box_still hR hBB
  replace HT := Lib.hid (bt2 HT.out hBB)
  clear hBB hB2
  have cA0 : w2.cell? ⟨w.heap.size, 0, none⟩ = some (.bool n0) := cell_blk hA 0
  have cA1 : w2.cell? ⟨w.heap.size, 1, none⟩ = some (.int .u64 h0) := cell_blk hA 1
  have cA2 : w2.cell? ⟨w.heap.size, 2, none⟩ = some (.int .u64 l0) := cell_blk hA 2
  have cA3 : w2.cell? ⟨w.heap.size, 3, none⟩ = some (.int .i64 d0) := cell_blk hA 3
  have lA := blkF hA
  have cB0 : w2.cell? ⟨w.heap.size + 1, 0, none⟩ = some (.bool n1) := cell_blk hB 0
  have cB1 : w2.cell? ⟨w.heap.size + 1, 1, none⟩ = some (.int .u64 h1) := cell_blk hB 1
  have cB2 : w2.cell? ⟨w.heap.size + 1, 2, none⟩ = some (.int .u64 l1) := cell_blk hB 2
  have cB3 : w2.cell? ⟨w.heap.size + 1, 3, none⟩ = some (.int .i64 d1) := cell_blk hB 3
  have lB := blkF hB
  have cR0 : w2.cell? ⟨w.heap.size + 1 + 1, 0, none⟩ = some (.bool false) := cell_blk hR 0
  have cR1 : w2.cell? ⟨w.heap.size + 1 + 1, 1, none⟩ = some (.int .u64 0) := cell_blk hR 1
  have cR2 : w2.cell? ⟨w.heap.size + 1 + 1, 2, none⟩ = some (.int .u64 0) := cell_blk hR 2
  have cR3 : w2.cell? ⟨w.heap.size + 1 + 1, 3, none⟩ = some (.int .i64 0) := cell_blk hR 3
  have fR := free_blk hR
  have lR := blkF hR
  have fR2 : ∀ k, ((w2.alloc (.cells #[.bool m2, .int .u64 x2, .int .u64 y2] 26)).alloc (.cells #[.bool m2, .int .u64 x2, .int .u64 y2, .int .i64 p] 28)).frozen? ⟨w.heap.size + 1 + 1, k, none⟩ = false := fun k => free_blk (blkAl (blkAl hR _) _) k
  go_wp2_with fail
  refine (specFracOk m2 x2 y2 p _).mono ?_
  rintro e w3 ⟨rfl, hB3⟩
  rw [HK.out]
  obtain ⟨_, hO, hBB, _⟩ := box2 hB3
  replace hR := box_still hR hBB
  replace HT := Lib.hid (bt2 HT.out hBB)
  clear hBB hB3
  clear cA0 cA1 cA2 cA3 lA
  clear cB0 cB1 cB2 cB3 lB
  clear cR0 cR1 cR2 cR3 fR lR
  clear fR2
  have cO0 : w3.cell? ⟨w2.heap.size + 1, 0, none⟩ = some (.bool m2) := cell_blk hO 0
  have cO1 : w3.cell? ⟨w2.heap.size + 1, 1, none⟩ = some (.int .u64 x2) := cell_blk hO 1
  have cO2 : w3.cell? ⟨w2.heap.size + 1, 2, none⟩ = some (.int .u64 y2) := cell_blk hO 2
  have cO3 : w3.cell? ⟨w2.heap.size + 1, 3, none⟩ = some (.int .i64 p) := cell_blk hO 3
  have lO := blkF hO
  have cR0 : w3.cell? ⟨w.heap.size + 1 + 1, 0, none⟩ = some (.bool false) := cell_blk hR 0
  have cR1 : w3.cell? ⟨w.heap.size + 1 + 1, 1, none⟩ = some (.int .u64 0) := cell_blk hR 1
  have cR2 : w3.cell? ⟨w.heap.size + 1 + 1, 2, none⟩ = some (.int .u64 0) := cell_blk hR 2
  have cR3 : w3.cell? ⟨w.heap.size + 1 + 1, 3, none⟩ = some (.int .i64 0) := cell_blk hR 3
  have fR := free_blk hR
  have lR := blkF hR
  go_wp2_with fail
  all_goals (try simp only [Exit.inBlock, Exit.then])
  all_goals refine bodyPost_ret (v := .tuple #[.agg #[.bool false, .int .u64 0, .int .u64 0, .int .i64 0], .bool false]) ?_ rfl ⟨rfl, ?_⟩
  all_goals first
    | (rw [results_cell_tmp rfl]; go_simp; done)
    | (repeat' (first | refine Below.setCell ?_ (by simp <;> omega) _ | refine Below.alloc ?_ (by have := HT.out.size; simp; omega) _ | exact HT.out))
end Go.Proofs.YtapdocfifgnjgaaDoor
