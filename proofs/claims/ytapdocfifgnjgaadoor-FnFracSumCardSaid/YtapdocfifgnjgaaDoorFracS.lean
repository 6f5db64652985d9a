
/-
  Fractions: the reference's way.
-/
import Derived.Test.YtapdocfifgnjgaaDoorPk7
import Derived.Test.YtapdocfifgnjgaaDoorPk6
import Derived.Test.YtapdocfifgnjgaaDoorWideD
namespace Go.Proofs.YtapdocfifgnjgaaDoor
open Go.RowKit

/-- A fraction that is valid: its numerator, and its denominator from 1 to a million. -/
def okF (n : Bool) (h l d : Int) : Bool := okV n h l && decide (1 ≤ d ∧ d ≤ 1000000)
/-- The cells of a fraction. -/
def fracV (z d : Int) : Value := .agg #[.bool (decide (z < 0)), .int .u64 ((z.natAbs : Int) / 18446744073709551616), .int .u64 ((z.natAbs : Int) % 18446744073709551616), .int .i64 d]
theorem okF_yes {n : Bool} {h l d : Int} (k : okF n h l d = true) : okV n h l = true ∧ 1 ≤ d ∧ d ≤ 1000000 := by
  simp only [okF, Bool.and_eq_true, decide_eq_true_eq] at k
  exact k
theorem okF_mk {n : Bool} {h l d : Int} (k : okV n h l = true) (d0 : 1 ≤ d) (d1 : d ≤ 1000000) : okF n h l d = true := by
  simp [okF, k, d0, d1]
theorem blkF {w : World} {b : Nat} {cs : Array Value} {T : TypeId} {f : Nat × Nat} (h : w.heap[b]? = some (.cells cs T f)) : b < w.heap.size := by
  rcases Nat.lt_or_ge b w.heap.size with hl | hl
  · exact hl
  · rw [Array.getElem?_eq_none hl] at h; cases h
set_option maxRecDepth 100000 in
set_option maxHeartbeats 1000000 in
theorem specFracOk (n0 : Bool) (h0 l0 d0 : Int) (w : World) :
    Calls Tryd.prog 27 #[.agg #[.bool n0, .int .u64 h0, .int .u64 l0, .int .i64 d0]] w fun e w' => e = .returned (.bool (okF n0 h0 l0 d0)) ∧ Below w.heap.size w w' := by
  go_enter Tryd.func27, Tryd.ntmps27
  go_wp2_with fail
  refine (specWideOk n0 h0 l0 _).mono ?_
  rintro e w1 ⟨rfl, hB1⟩
  have hX := box_kept hB1
  have HT := Lib.hid (box_below hB1)
  clear hB1
  have cx0 : w1.cell? ⟨w.heap.size, 0, none⟩ = some (.bool n0) := cell_blk hX 0
  have cx1 : w1.cell? ⟨w.heap.size, 1, none⟩ = some (.int .u64 h0) := cell_blk hX 1
  have cx2 : w1.cell? ⟨w.heap.size, 2, none⟩ = some (.int .u64 l0) := cell_blk hX 2
  have cx3 : w1.cell? ⟨w.heap.size, 3, none⟩ = some (.int .i64 d0) := cell_blk hX 3
  cases hk : okV n0 h0 l0 with
  | false =>
    go_wp2_with fail
    go_ret
    exact ⟨by simp [okF, hk], HT.out⟩
  | true =>
    go_wp2_with fail
    refine (specIn d0 1 1000000 _).mono ?_
    rintro e w2 ⟨rfl, rfl⟩
    go_wp2_with fail
    go_ret
    exact ⟨by simp [okF, hk], HT.out⟩
/-- What a square over a number ends in. -/
noncomputable def sqE (g d : Int) : Ending := if 1 ≤ d ∧ d ≤ 1000000 then .returned (.tuple #[fracV (g * g) d, .bool true]) else .returned (.tuple #[.agg #[.bool false, .int .u64 0, .int .u64 0, .int .i64 0], .bool false])
set_option maxRecDepth 100000 in
set_option maxHeartbeats 1000000 in
theorem specSq_yes (g : Int) (n0 : Bool) (h0 l0 d0 : Int) (g0 : -9223372036854775808 ≤ g) (g1 : g ≤ 9223372036854775807) (HW : Hid (wideC (g * g) = .agg #[.bool n0, .int .u64 h0, .int .u64 l0])) (hk : Hid (okF n0 h0 l0 d0 = true)) (w : World) :
    Calls Tryd.prog 66 #[.int .i64 g, .int .i64 d0] w fun e w' => e = .returned (.tuple #[.agg #[.bool n0, .int .u64 h0, .int .u64 l0, .int .i64 d0], .bool true]) ∧ Below w.heap.size w w' := by
  go_enter Tryd.func66, Tryd.ntmps66
  go_wp2_with fail
  refine (specMulWide g g g0 g1 g0 g1 _).mono ?_
  rintro e w1 ⟨rfl, hB1⟩
  rw [HW.out]
  have hR := box_kept hB1
  have HT := Lib.hid (box_below hB1)
  clear hB1
  have hlr := blkF hR
  go_wp2_with fail
  refine (specFracOk n0 h0 l0 d0 _).mono ?_
  rintro e w2 ⟨rfl, hB2⟩
  rw [hk.out]
  have hF := box_kept hB2
  have hBB := box_below hB2
  replace hR := box_still hR hBB
  replace HT := Lib.hid (bt2 HT.out hBB)
  clear hB2 hBB hlr
  have cr0 : w2.cell? ⟨w.heap.size, 0, none⟩ = some (.bool false) := cell_blk hR 0
  have cr1 : w2.cell? ⟨w.heap.size, 1, none⟩ = some (.int .u64 0) := cell_blk hR 1
  have cr2 : w2.cell? ⟨w.heap.size, 2, none⟩ = some (.int .u64 0) := cell_blk hR 2
  have cr3 : w2.cell? ⟨w.heap.size, 3, none⟩ = some (.int .i64 0) := cell_blk hR 3
  have cf0 : w2.cell? ⟨w1.heap.size, 0, none⟩ = some (.bool n0) := cell_blk hF 0
  have cf1 : w2.cell? ⟨w1.heap.size, 1, none⟩ = some (.int .u64 h0) := cell_blk hF 1
  have cf2 : w2.cell? ⟨w1.heap.size, 2, none⟩ = some (.int .u64 l0) := cell_blk hF 2
  have cf3 : w2.cell? ⟨w1.heap.size, 3, none⟩ = some (.int .i64 d0) := cell_blk hF 3
  have hfr := free_blk hR
  have hlr := blkF hR
  go_wp2_with fail
  all_goals (try simp only [Exit.inBlock, Exit.then])
  all_goals refine bodyPost_ret (v := .tuple #[.agg #[.bool n0, .int .u64 h0, .int .u64 l0, .int .i64 d0], .bool true]) ?_ rfl ⟨rfl, ?_⟩
  all_goals first
    | (rw [results_cell_tmp rfl]; go_simp; done)
    | (rw [results_cells_tmp rfl]; go_simp; done)
    | (repeat' (first | exact HT.out | assumption | exact Below.refl _ _ | refine Below.drew ?_ | refine Below.setCell ?_ (by simp <;> omega) _ | refine Below.alloc ?_ (by simp <;> omega) _))
set_option maxRecDepth 100000 in
set_option maxHeartbeats 1000000 in
theorem specSq_no (g : Int) (n0 : Bool) (h0 l0 d0 : Int) (g0 : -9223372036854775808 ≤ g) (g1 : g ≤ 9223372036854775807) (HW : Hid (wideC (g * g) = .agg #[.bool n0, .int .u64 h0, .int .u64 l0])) (hk : Hid (okF n0 h0 l0 d0 = false)) (w : World) :
    Calls Tryd.prog 66 #[.int .i64 g, .int .i64 d0] w fun e w' => e = .returned (.tuple #[.agg #[.bool false, .int .u64 0, .int .u64 0, .int .i64 0], .bool false]) ∧ Below w.heap.size w w' := by
  go_enter Tryd.func66, Tryd.ntmps66
  go_wp2_with fail
  refine (specMulWide g g g0 g1 g0 g1 _).mono ?_
  rintro e w1 ⟨rfl, hB1⟩
  rw [HW.out]
  have hR := box_kept hB1
  have HT := Lib.hid (box_below hB1)
  clear hB1
  have hlr := blkF hR
  go_wp2_with fail
  refine (specFracOk n0 h0 l0 d0 _).mono ?_
  rintro e w2 ⟨rfl, hB2⟩
  rw [hk.out]
  have hF := box_kept hB2
  have hBB := box_below hB2
  replace hR := box_still hR hBB
  replace HT := Lib.hid (bt2 HT.out hBB)
  clear hB2 hBB hlr
  have cr0 : w2.cell? ⟨w.heap.size, 0, none⟩ = some (.bool false) := cell_blk hR 0
  have cr1 : w2.cell? ⟨w.heap.size, 1, none⟩ = some (.int .u64 0) := cell_blk hR 1
  have cr2 : w2.cell? ⟨w.heap.size, 2, none⟩ = some (.int .u64 0) := cell_blk hR 2
  have cr3 : w2.cell? ⟨w.heap.size, 3, none⟩ = some (.int .i64 0) := cell_blk hR 3
  have cf0 : w2.cell? ⟨w1.heap.size, 0, none⟩ = some (.bool n0) := cell_blk hF 0
  have cf1 : w2.cell? ⟨w1.heap.size, 1, none⟩ = some (.int .u64 h0) := cell_blk hF 1
  have cf2 : w2.cell? ⟨w1.heap.size, 2, none⟩ = some (.int .u64 l0) := cell_blk hF 2
  have cf3 : w2.cell? ⟨w1.heap.size, 3, none⟩ = some (.int .i64 d0) := cell_blk hF 3
  have hfr := free_blk hR
  have hlr := blkF hR
  go_wp2_with fail
  all_goals (try simp only [Exit.inBlock, Exit.then])
  all_goals refine bodyPost_ret (v := .tuple #[.agg #[.bool false, .int .u64 0, .int .u64 0, .int .i64 0], .bool false]) ?_ rfl ⟨rfl, ?_⟩
  all_goals first
    | (rw [results_cell_tmp rfl]; go_simp; done)
    | (rw [results_cells_tmp rfl]; go_simp; done)
    | (repeat' (first | exact HT.out | assumption | exact Below.refl _ _ | refine Below.drew ?_ | refine Below.setCell ?_ (by simp <;> omega) _ | refine Below.alloc ?_ (by simp <;> omega) _))
theorem sq_room {g : Int} (g0 : -9223372036854775808 ≤ g) (g1 : g ≤ 9223372036854775807) : 0 ≤ g * g ∧ g * g < 170141183460469231731687303715884105728 := by
  have h := Int.mul_self_le_mul_self (a := g.natAbs) (b := 9223372036854775808) (by omega) (by omega)
  have e : (g.natAbs : Int) * g.natAbs = g * g := Int.natAbs_mul_self
  rw [e] at h
  exact ⟨by rw [← e]; exact Int.mul_nonneg (by omega) (by omega), by omega⟩
theorem fracV_of {z d : Int} {n : Bool} {h l : Int} (e : wideC z = .agg #[.bool n, .int .u64 h, .int .u64 l]) : fracV z d = .agg #[.bool n, .int .u64 h, .int .u64 l, .int .i64 d] := by
  simp only [wideC, Value.agg.injEq, Array.mk.injEq, List.cons.injEq, Value.bool.injEq, Value.int.injEq, and_true, true_and] at e
  rw [fracV, e.1, e.2.1, e.2.2]
/-- A SQUARE OVER A NUMBER. -/
theorem specSquareOver (g d : Int) (g0 : -9223372036854775808 ≤ g) (g1 : g ≤ 9223372036854775807) (w : World) :
    Calls Tryd.prog 66 #[.int .i64 g, .int .i64 d] w fun e w' => e = sqE g d ∧ Below w.heap.size w w' := by
  obtain ⟨n, h, l, hW⟩ : ∃ (n : Bool) (h l : Int), wideC (g * g) = .agg #[.bool n, .int .u64 h, .int .u64 l] := ⟨_, _, _, rfl⟩
  have hr := sq_room g0 g1
  have hR : RoomW (g * g) := by unfold RoomW; omega
  have hk : okV n h l = true := by
    have q := wideC_ok hR
    simp only [wideC, Value.agg.injEq, Array.mk.injEq, List.cons.injEq, Value.bool.injEq, Value.int.injEq, and_true, true_and] at hW
    rw [← hW.1, ← hW.2.1, ← hW.2.2]
    exact q
  by_cases hd : 1 ≤ d ∧ d ≤ 1000000
  · rw [sqE, if_pos hd, fracV_of hW]
    exact specSq_yes g n h l d g0 g1 (Lib.hid hW) (Lib.hid (okF_mk hk hd.1 hd.2)) w
  · rw [sqE, if_neg hd]
    exact specSq_no g n h l d g0 g1 (Lib.hid hW) (Lib.hid (by rw [okF, hk, decide_eq_false hd]; rfl)) w
end Go.Proofs.YtapdocfifgnjgaaDoor
