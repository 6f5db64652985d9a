
/-
  Fractions: the program's way.
-/
import Derived.Test.YtapdocfifgnjgaaDoorFracS
import Derived.Test.YtapdocfifgnjgaaDoorImpA
import Derived.Test.YtapdocfifgnjgaaDoorImpC
namespace Go.Proofs.YtapdocfifgnjgaaDoor
open Go.RowKit

theorem as_num_num (v : Value) (w : World) : (Instr.typeAssert (.iface 65 v) 62 65 true).run Tryd.prog w = .ok (.tuple #[v, .bool true]) w := by kernel_rfl
theorem as_num_den (v : Value) (w : World) : (Instr.typeAssert (.iface 65 v) 62 66 true).run Tryd.prog w = .ok (.tuple #[.agg #[], .bool false]) w := by kernel_rfl
theorem as_den_den (v : Value) (w : World) : (Instr.typeAssert (.iface 66 v) 62 66 true).run Tryd.prog w = .ok (.tuple #[v, .bool true]) w := by kernel_rfl
theorem as_den_num (v : Value) (w : World) : (Instr.typeAssert (.iface 66 v) 62 65 true).run Tryd.prog w = .ok (.tuple #[.agg #[], .bool false]) w := by kernel_rfl
theorem as_nil_num (w : World) : (Instr.typeAssert .nilIface 62 65 true).run Tryd.prog w = .ok (.tuple #[.agg #[], .bool false]) w := by kernel_rfl
theorem as_nil_den (w : World) : (Instr.typeAssert .nilIface 62 66 true).run Tryd.prog w = .ok (.tuple #[.agg #[], .bool false]) w := by kernel_rfl
set_option maxRecDepth 100000 in
set_option maxHeartbeats 1000000 in
theorem implFlaw_num (n0 : Bool) (h0 l0 d0 : Int) (hp0 : 0 ≤ h0) (lp0 : 0 ≤ l0) (hk : Hid (okV n0 h0 l0 = false))  (w : World) :
    Calls Tryd.prog 32 #[.agg #[.bool n0, .int .u64 h0, .int .u64 l0, .int .i64 d0]] w fun e w' => e = .returned (.iface 65 (.agg #[])) ∧ Below w.heap.size w w' := by
  go_enter Tryd.func32, Tryd.ntmps32
  go_wp2_with fail
  refine (implWideOk n0 h0 l0 hp0 lp0 _).mono ?_
  rintro e w1 ⟨rfl, hB1⟩
  rw [hk.out]
  have hX := box_kept hB1
  have HT := Lib.hid (box_below hB1)
  clear hB1
  have cx0 : w1.cell? ⟨w.heap.size, 0, none⟩ = some (.bool n0) := cell_blk hX 0
  have cx1 : w1.cell? ⟨w.heap.size, 1, none⟩ = some (.int .u64 h0) := cell_blk hX 1
  have cx2 : w1.cell? ⟨w.heap.size, 2, none⟩ = some (.int .u64 l0) := cell_blk hX 2
  have cx3 : w1.cell? ⟨w.heap.size, 3, none⟩ = some (.int .i64 d0) := cell_blk hX 3
  go_wp2_with fail
  go_ret
  exact ⟨rfl, HT.out⟩
set_option maxRecDepth 100000 in
set_option maxHeartbeats 1000000 in
theorem implFlaw_lo (n0 : Bool) (h0 l0 d0 : Int) (hp0 : 0 ≤ h0) (lp0 : 0 ≤ l0) (hk : Hid (okV n0 h0 l0 = true)) (hd : d0 < 1) (w : World) :
    Calls Tryd.prog 32 #[.agg #[.bool n0, .int .u64 h0, .int .u64 l0, .int .i64 d0]] w fun e w' => e = .returned (.iface 66 (.agg #[])) ∧ Below w.heap.size w w' := by
  go_enter Tryd.func32, Tryd.ntmps32
  go_wp2_with fail
  refine (implWideOk n0 h0 l0 hp0 lp0 _).mono ?_
  rintro e w1 ⟨rfl, hB1⟩
  rw [hk.out]
  have hX := box_kept hB1
  have HT := Lib.hid (box_below hB1)
  clear hB1
  have cx0 : w1.cell? ⟨w.heap.size, 0, none⟩ = some (.bool n0) := cell_blk hX 0
  have cx1 : w1.cell? ⟨w.heap.size, 1, none⟩ = some (.int .u64 h0) := cell_blk hX 1
  have cx2 : w1.cell? ⟨w.heap.size, 2, none⟩ = some (.int .u64 l0) := cell_blk hX 2
  have cx3 : w1.cell? ⟨w.heap.size, 3, none⟩ = some (.int .i64 d0) := cell_blk hX 3
  go_wp2_with fail
  go_ret
  exact ⟨rfl, HT.out⟩
set_option maxRecDepth 100000 in
set_option maxHeartbeats 1000000 in
theorem implFlaw_hi (n0 : Bool) (h0 l0 d0 : Int) (hp0 : 0 ≤ h0) (lp0 : 0 ≤ l0) (hk : Hid (okV n0 h0 l0 = true)) (hd : ¬ d0 < 1) (hd2 : 1000000 < d0) (w : World) :
    Calls Tryd.prog 32 #[.agg #[.bool n0, .int .u64 h0, .int .u64 l0, .int .i64 d0]] w fun e w' => e = .returned (.iface 66 (.agg #[])) ∧ Below w.heap.size w w' := by
  go_enter Tryd.func32, Tryd.ntmps32
  go_wp2_with fail
  refine (implWideOk n0 h0 l0 hp0 lp0 _).mono ?_
  rintro e w1 ⟨rfl, hB1⟩
  rw [hk.out]
  have hX := box_kept hB1
  have HT := Lib.hid (box_below hB1)
  clear hB1
  have cx0 : w1.cell? ⟨w.heap.size, 0, none⟩ = some (.bool n0) := cell_blk hX 0
  have cx1 : w1.cell? ⟨w.heap.size, 1, none⟩ = some (.int .u64 h0) := cell_blk hX 1
  have cx2 : w1.cell? ⟨w.heap.size, 2, none⟩ = some (.int .u64 l0) := cell_blk hX 2
  have cx3 : w1.cell? ⟨w.heap.size, 3, none⟩ = some (.int .i64 d0) := cell_blk hX 3
  go_wp2_with fail
  go_ret
  exact ⟨rfl, HT.out⟩
set_option maxRecDepth 100000 in
set_option maxHeartbeats 1000000 in
theorem implFlaw_nil (n0 : Bool) (h0 l0 d0 : Int) (hp0 : 0 ≤ h0) (lp0 : 0 ≤ l0) (hk : Hid (okV n0 h0 l0 = true)) (hd : ¬ d0 < 1) (hd2 : ¬ 1000000 < d0) (w : World) :
    Calls Tryd.prog 32 #[.agg #[.bool n0, .int .u64 h0, .int .u64 l0, .int .i64 d0]] w fun e w' => e = .returned (.nilIface) ∧ Below w.heap.size w w' := by
  go_enter Tryd.func32, Tryd.ntmps32
  go_wp2_with fail
  refine (implWideOk n0 h0 l0 hp0 lp0 _).mono ?_
  rintro e w1 ⟨rfl, hB1⟩
  rw [hk.out]
  have hX := box_kept hB1
  have HT := Lib.hid (box_below hB1)
  clear hB1
  have cx0 : w1.cell? ⟨w.heap.size, 0, none⟩ = some (.bool n0) := cell_blk hX 0
  have cx1 : w1.cell? ⟨w.heap.size, 1, none⟩ = some (.int .u64 h0) := cell_blk hX 1
  have cx2 : w1.cell? ⟨w.heap.size, 2, none⟩ = some (.int .u64 l0) := cell_blk hX 2
  have cx3 : w1.cell? ⟨w.heap.size, 3, none⟩ = some (.int .i64 d0) := cell_blk hX 3
  go_wp2_with fail
  go_ret
  exact ⟨rfl, HT.out⟩
set_option maxRecDepth 100000 in
set_option maxHeartbeats 1000000 in
theorem implOk_num (n0 : Bool) (h0 l0 d0 : Int) (hF : ∀ w, Calls Tryd.prog 32 #[.agg #[.bool n0, .int .u64 h0, .int .u64 l0, .int .i64 d0]] w fun e w' => e = .returned (.iface 65 (.agg #[])) ∧ Below w.heap.size w w') (w : World) :
    Calls Tryd.prog 12 #[.agg #[.bool n0, .int .u64 h0, .int .u64 l0, .int .i64 d0]] w fun e w' => e = .returned (.bool false) ∧ Below w.heap.size w w' := by
  go_enter Tryd.func12, Tryd.ntmps12
  go_wp2_with fail
  refine (hF _).mono ?_
  rintro e w1 ⟨rfl, hB1⟩
  have HT := Lib.hid (box_below hB1)
  clear hB1
  go_wp2_with (simp only [as_num_num, as_num_den])
  go_ret
  exact ⟨rfl, HT.out⟩
set_option maxRecDepth 100000 in
set_option maxHeartbeats 1000000 in
theorem implOk_den (n0 : Bool) (h0 l0 d0 : Int) (hF : ∀ w, Calls Tryd.prog 32 #[.agg #[.bool n0, .int .u64 h0, .int .u64 l0, .int .i64 d0]] w fun e w' => e = .returned (.iface 66 (.agg #[])) ∧ Below w.heap.size w w') (w : World) :
    Calls Tryd.prog 12 #[.agg #[.bool n0, .int .u64 h0, .int .u64 l0, .int .i64 d0]] w fun e w' => e = .returned (.bool false) ∧ Below w.heap.size w w' := by
  go_enter Tryd.func12, Tryd.ntmps12
  go_wp2_with fail
  refine (hF _).mono ?_
  rintro e w1 ⟨rfl, hB1⟩
  have HT := Lib.hid (box_below hB1)
  clear hB1
  go_wp2_with (simp only [as_den_num, as_den_den])
  go_ret
  exact ⟨rfl, HT.out⟩
set_option maxRecDepth 100000 in
set_option maxHeartbeats 1000000 in
theorem implOk_nil (n0 : Bool) (h0 l0 d0 : Int) (hF : ∀ w, Calls Tryd.prog 32 #[.agg #[.bool n0, .int .u64 h0, .int .u64 l0, .int .i64 d0]] w fun e w' => e = .returned (.nilIface) ∧ Below w.heap.size w w') (w : World) :
    Calls Tryd.prog 12 #[.agg #[.bool n0, .int .u64 h0, .int .u64 l0, .int .i64 d0]] w fun e w' => e = .returned (.bool true) ∧ Below w.heap.size w w' := by
  go_enter Tryd.func12, Tryd.ntmps12
  go_wp2_with fail
  refine (hF _).mono ?_
  rintro e w1 ⟨rfl, hB1⟩
  have HT := Lib.hid (box_below hB1)
  clear hB1
  go_wp2_with (simp only [as_nil_num, as_nil_den])
  go_ret
  exact ⟨rfl, HT.out⟩
/-- WHETHER A FRACTION IS VALID. -/
theorem implFracOk (n0 : Bool) (h0 l0 d0 : Int) (hp0 : 0 ≤ h0) (_hq0 : h0 < 18446744073709551616) (lp0 : 0 ≤ l0) (_lq0 : l0 < 18446744073709551616) (dp0 : -9223372036854775808 ≤ d0) (dq0 : d0 ≤ 9223372036854775807) (w : World) :
    Calls Tryd.prog 12 #[.agg #[.bool n0, .int .u64 h0, .int .u64 l0, .int .i64 d0]] w fun e w' => e = .returned (.bool (okF n0 h0 l0 d0)) ∧ Below w.heap.size w w' := by
  cases hk : okV n0 h0 l0 with
  | false =>
    rw [okF, hk, Bool.false_and]
    exact implOk_num n0 h0 l0 d0 (implFlaw_num n0 h0 l0 d0 hp0 lp0 (Lib.hid hk)) w
  | true =>
    rw [okF, hk, Bool.true_and]
    by_cases hd : d0 < 1
    · rw [decide_eq_false (by omega)]
      exact implOk_den n0 h0 l0 d0 (implFlaw_lo n0 h0 l0 d0 hp0 lp0 (Lib.hid hk) hd) w
    · by_cases hd2 : 1000000 < d0
      · rw [decide_eq_false (by omega)]
        exact implOk_den n0 h0 l0 d0 (implFlaw_hi n0 h0 l0 d0 hp0 lp0 (Lib.hid hk) hd hd2) w
      · rw [decide_eq_true (by omega)]
        exact implOk_nil n0 h0 l0 d0 (implFlaw_nil n0 h0 l0 d0 hp0 lp0 (Lib.hid hk) hd hd2) w
set_option maxRecDepth 100000 in
set_option maxHeartbeats 1000000 in
theorem implIf_yes (n0 : Bool) (h0 l0 d0 : Int) (hp0 : 0 ≤ h0) (hq0 : h0 < 18446744073709551616) (lp0 : 0 ≤ l0) (lq0 : l0 < 18446744073709551616) (dp0 : -9223372036854775808 ≤ d0) (dq0 : d0 ≤ 9223372036854775807) (hk : Hid (okF n0 h0 l0 d0 = true)) (w : World) :
    Calls Tryd.prog 24 #[.agg #[.bool n0, .int .u64 h0, .int .u64 l0, .int .i64 d0]] w fun e w' => e = .returned (.tuple #[.agg #[.bool n0, .int .u64 h0, .int .u64 l0, .int .i64 d0], .bool true]) ∧ Below w.heap.size w w' := by
  go_enter Tryd.func24, Tryd.ntmps24
  go_wp2_with fail
  refine (implFracOk n0 h0 l0 d0 hp0 hq0 lp0 lq0 dp0 dq0 _).mono ?_
  rintro e w1 ⟨rfl, hB1⟩
  rw [hk.out]
  obtain ⟨hX, hR, hBB, _⟩ := box2 hB1
  have HT := Lib.hid hBB
  clear hBB hB1
  have cx0 : w1.cell? ⟨w.heap.size, 0, none⟩ = some (.bool n0) := cell_blk hX 0
  have cx1 : w1.cell? ⟨w.heap.size, 1, none⟩ = some (.int .u64 h0) := cell_blk hX 1
  have cx2 : w1.cell? ⟨w.heap.size, 2, none⟩ = some (.int .u64 l0) := cell_blk hX 2
  have cx3 : w1.cell? ⟨w.heap.size, 3, none⟩ = some (.int .i64 d0) := cell_blk hX 3
  have cr0 : w1.cell? ⟨w.heap.size + 1, 0, none⟩ = some (.bool false) := cell_blk hR 0
  have cr1 : w1.cell? ⟨w.heap.size + 1, 1, none⟩ = some (.int .u64 0) := cell_blk hR 1
  have cr2 : w1.cell? ⟨w.heap.size + 1, 2, none⟩ = some (.int .u64 0) := cell_blk hR 2
  have cr3 : w1.cell? ⟨w.heap.size + 1, 3, none⟩ = some (.int .i64 0) := cell_blk hR 3
  have hfr := free_blk hR
  have hlr := blkF hR
  go_wp2_with fail
  all_goals (try simp only [Exit.inBlock, Exit.then])
  all_goals refine bodyPost_ret (v := .tuple #[.agg #[.bool n0, .int .u64 h0, .int .u64 l0, .int .i64 d0], .bool true]) ?_ rfl ⟨rfl, ?_⟩
  all_goals first
    | (rw [results_cell_tmp rfl]; go_simp; done)
    | (rw [results_cells_tmp rfl]; go_simp; done)
    | (repeat' (first | exact HT.out | assumption | exact Below.refl _ _ | refine Below.drew ?_ | refine Below.setCell ?_ (by simp <;> omega) _ | refine Below.alloc ?_ (by simp <;> omega) _))
set_option maxRecDepth 100000 in
set_option maxHeartbeats 1000000 in
theorem implIf_no (n0 : Bool) (h0 l0 d0 : Int) (hp0 : 0 ≤ h0) (hq0 : h0 < 18446744073709551616) (lp0 : 0 ≤ l0) (lq0 : l0 < 18446744073709551616) (dp0 : -9223372036854775808 ≤ d0) (dq0 : d0 ≤ 9223372036854775807) (hk : Hid (okF n0 h0 l0 d0 = false)) (w : World) :
    Calls Tryd.prog 24 #[.agg #[.bool n0, .int .u64 h0, .int .u64 l0, .int .i64 d0]] w fun e w' => e = .returned (.tuple #[.agg #[.bool false, .int .u64 0, .int .u64 0, .int .i64 0], .bool false]) ∧ Below w.heap.size w w' := by
  go_enter Tryd.func24, Tryd.ntmps24
  go_wp2_with fail
  refine (implFracOk n0 h0 l0 d0 hp0 hq0 lp0 lq0 dp0 dq0 _).mono ?_
  rintro e w1 ⟨rfl, hB1⟩
  rw [hk.out]
  obtain ⟨hX, hR, hBB, _⟩ := box2 hB1
  have HT := Lib.hid hBB
  clear hBB hB1
  have cx0 : w1.cell? ⟨w.heap.size, 0, none⟩ = some (.bool n0) := cell_blk hX 0
  have cx1 : w1.cell? ⟨w.heap.size, 1, none⟩ = some (.int .u64 h0) := cell_blk hX 1
  have cx2 : w1.cell? ⟨w.heap.size, 2, none⟩ = some (.int .u64 l0) := cell_blk hX 2
  have cx3 : w1.cell? ⟨w.heap.size, 3, none⟩ = some (.int .i64 d0) := cell_blk hX 3
  have cr0 : w1.cell? ⟨w.heap.size + 1, 0, none⟩ = some (.bool false) := cell_blk hR 0
  have cr1 : w1.cell? ⟨w.heap.size + 1, 1, none⟩ = some (.int .u64 0) := cell_blk hR 1
  have cr2 : w1.cell? ⟨w.heap.size + 1, 2, none⟩ = some (.int .u64 0) := cell_blk hR 2
  have cr3 : w1.cell? ⟨w.heap.size + 1, 3, none⟩ = some (.int .i64 0) := cell_blk hR 3
  have hfr := free_blk hR
  have hlr := blkF hR
  go_wp2_with fail
  all_goals (try simp only [Exit.inBlock, Exit.then])
  all_goals refine bodyPost_ret (v := .tuple #[.agg #[.bool false, .int .u64 0, .int .u64 0, .int .i64 0], .bool false]) ?_ rfl ⟨rfl, ?_⟩
  all_goals first
    | (rw [results_cell_tmp rfl]; go_simp; done)
    | (rw [results_cells_tmp rfl]; go_simp; done)
    | (repeat' (first | exact HT.out | assumption | exact Below.refl _ _ | refine Below.drew ?_ | refine Below.setCell ?_ (by simp <;> omega) _ | refine Below.alloc ?_ (by simp <;> omega) _))
set_option maxRecDepth 100000 in
set_option maxHeartbeats 1000000 in
theorem implSq_yes (g : Int) (n0 : Bool) (h0 l0 d0 : Int) (hp0 : 0 ≤ h0) (hq0 : h0 < 18446744073709551616) (lp0 : 0 ≤ l0) (lq0 : l0 < 18446744073709551616) (dp0 : -9223372036854775808 ≤ d0) (dq0 : d0 ≤ 9223372036854775807) (g0 : -9223372036854775808 ≤ g) (g1 : g ≤ 9223372036854775807) (HW : Hid (wideC (g * g) = .agg #[.bool n0, .int .u64 h0, .int .u64 l0])) (hk : Hid (okF n0 h0 l0 d0 = true)) (w : World) :
    Calls Tryd.prog 11 #[.int .i64 g, .int .i64 d0] w fun e w' => e = .returned (.tuple #[.agg #[.bool n0, .int .u64 h0, .int .u64 l0, .int .i64 d0], .bool true]) ∧ Below w.heap.size w w' := by
  go_enter Tryd.func11, Tryd.ntmps11
  go_wp2_with fail
  refine (implMulWide g g g0 g1 g0 g1 _).mono ?_
  rintro e w1 ⟨rfl, hB1⟩
  rw [HW.out]
  have hR := box_kept hB1
  have HT := Lib.hid (box_below hB1)
  clear hB1
  go_wp2_with fail
  refine (implIf_yes n0 h0 l0 d0 hp0 hq0 lp0 lq0 dp0 dq0 hk _).mono ?_
  rintro e w2 ⟨rfl, hB2⟩
  replace hR := box_still hR hB2
  replace HT := Lib.hid (bt2 HT.out hB2)
  clear hB2
  have cr0 : w2.cell? ⟨w.heap.size, 0, none⟩ = some (.bool false) := cell_blk hR 0
  have cr1 : w2.cell? ⟨w.heap.size, 1, none⟩ = some (.int .u64 0) := cell_blk hR 1
  have cr2 : w2.cell? ⟨w.heap.size, 2, none⟩ = some (.int .u64 0) := cell_blk hR 2
  have cr3 : w2.cell? ⟨w.heap.size, 3, none⟩ = some (.int .i64 0) := cell_blk hR 3
  have hfr := free_blk hR
  have hlr := blkF hR
  go_wp2_with fail
  all_goals (try simp only [Exit.inBlock, Exit.then])
  all_goals refine bodyPost_ret (v := .tuple #[.agg #[.bool n0, .int .u64 h0, .int .u64 l0, .int .i64 d0], .bool true]) ?_ rfl ⟨rfl, ?_⟩
  all_goals first
    | (rw [results_cell_tmp rfl]; go_simp; done)
    | (rw [results_cells_tmp rfl]; go_simp; done)
    | (repeat' (first | exact HT.out | assumption | exact Below.refl _ _ | refine Below.drew ?_ | refine Below.setCell ?_ (by simp <;> omega) _ | refine Below.alloc ?_ (by simp <;> omega) _))
set_option maxRecDepth 100000 in
set_option maxHeartbeats 1000000 in
theorem implSq_no (g : Int) (n0 : Bool) (h0 l0 d0 : Int) (hp0 : 0 ≤ h0) (hq0 : h0 < 18446744073709551616) (lp0 : 0 ≤ l0) (lq0 : l0 < 18446744073709551616) (dp0 : -9223372036854775808 ≤ d0) (dq0 : d0 ≤ 9223372036854775807) (g0 : -9223372036854775808 ≤ g) (g1 : g ≤ 9223372036854775807) (HW : Hid (wideC (g * g) = .agg #[.bool n0, .int .u64 h0, .int .u64 l0])) (hk : Hid (okF n0 h0 l0 d0 = false)) (w : World) :
    Calls Tryd.prog 11 #[.int .i64 g, .int .i64 d0] w fun e w' => e = .returned (.tuple #[.agg #[.bool false, .int .u64 0, .int .u64 0, .int .i64 0], .bool false]) ∧ Below w.heap.size w w' := by
  go_enter Tryd.func11, Tryd.ntmps11
  go_wp2_with fail
  refine (implMulWide g g g0 g1 g0 g1 _).mono ?_
  rintro e w1 ⟨rfl, hB1⟩
  rw [HW.out]
  have hR := box_kept hB1
  have HT := Lib.hid (box_below hB1)
  clear hB1
  go_wp2_with fail
  refine (implIf_no n0 h0 l0 d0 hp0 hq0 lp0 lq0 dp0 dq0 hk _).mono ?_
  rintro e w2 ⟨rfl, hB2⟩
  replace hR := box_still hR hB2
  replace HT := Lib.hid (bt2 HT.out hB2)
  clear hB2
  have cr0 : w2.cell? ⟨w.heap.size, 0, none⟩ = some (.bool false) := cell_blk hR 0
  have cr1 : w2.cell? ⟨w.heap.size, 1, none⟩ = some (.int .u64 0) := cell_blk hR 1
  have cr2 : w2.cell? ⟨w.heap.size, 2, none⟩ = some (.int .u64 0) := cell_blk hR 2
  have cr3 : w2.cell? ⟨w.heap.size, 3, none⟩ = some (.int .i64 0) := cell_blk hR 3
  have hfr := free_blk hR
  have hlr := blkF hR
  go_wp2_with fail
  all_goals (try simp only [Exit.inBlock, Exit.then])
  all_goals refine bodyPost_ret (v := .tuple #[.agg #[.bool false, .int .u64 0, .int .u64 0, .int .i64 0], .bool false]) ?_ rfl ⟨rfl, ?_⟩
  all_goals first
    | (rw [results_cell_tmp rfl]; go_simp; done)
    | (rw [results_cells_tmp rfl]; go_simp; done)
    | (repeat' (first | exact HT.out | assumption | exact Below.refl _ _ | refine Below.drew ?_ | refine Below.setCell ?_ (by simp <;> omega) _ | refine Below.alloc ?_ (by simp <;> omega) _))
/-- A SQUARE OVER A NUMBER. -/
theorem implSquareOver (g d : Int) (g0 : -9223372036854775808 ≤ g) (g1 : g ≤ 9223372036854775807) (dp : -9223372036854775808 ≤ d) (dq : d ≤ 9223372036854775807) (w : World) :
    Calls Tryd.prog 11 #[.int .i64 g, .int .i64 d] w fun e w' => e = sqE g d ∧ Below w.heap.size w w' := by
  obtain ⟨n, h, l, hW⟩ : ∃ (n : Bool) (h l : Int), wideC (g * g) = .agg #[.bool n, .int .u64 h, .int .u64 l] := ⟨_, _, _, rfl⟩
  have hr := sq_room g0 g1
  have hR : RoomW (g * g) := by unfold RoomW; omega
  have q := wideC_bounds hW
  have hh := q.2.2.2 hR
  have hk : okV n h l = true := by
    have q := wideC_ok hR
    simp only [wideC, Value.agg.injEq, Array.mk.injEq, List.cons.injEq, Value.bool.injEq, Value.int.injEq, and_true, true_and] at hW
    rw [← hW.1, ← hW.2.1, ← hW.2.2]
    exact q
  by_cases hd : 1 ≤ d ∧ d ≤ 1000000
  · rw [sqE, if_pos hd, fracV_of hW]
    exact implSq_yes g n h l d q.1 hh q.2.1 q.2.2.1 dp dq g0 g1 (Lib.hid hW) (Lib.hid (okF_mk hk hd.1 hd.2)) w
  · rw [sqE, if_neg hd]
    exact implSq_no g n h l d q.1 hh q.2.1 q.2.2.1 dp dq g0 g1 (Lib.hid hW) (Lib.hid (by rw [okF, hk, decide_eq_false hd]; rfl)) w
end Go.Proofs.YtapdocfifgnjgaaDoor
