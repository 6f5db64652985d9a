
/-
  Wide numbers of the reference: the difference, and what all of them answer on numbers that have room.
-/
import Derived.Test.YtjmlpeapbealfaaWideA
import Derived.Deep.RegionWith
namespace Go.Proofs.Ytjmlpeapbealfaa
open Go.RowKit

theorem below_of_drew {w w' : World} (h : Below w.drew.heap.size w.drew w') : Below w.heap.size w w' := ⟨h.os, h.tape, h.output, h.size, h.block⟩
theorem box_new (w : World) (o : Obj) : (w.alloc o).heap[w.heap.size]? = some o := by
  show (w.heap.push _)[w.heap.size]? = _
  simp
theorem box3 {w w1 : World} {a b r : Array Value} {T U V : TypeId} (hB : Below (((w.alloc (.cells a T)).alloc (.cells b U)).alloc (.cells r V)).heap.size (((w.alloc (.cells a T)).alloc (.cells b U)).alloc (.cells r V)) w1) :
    w1.heap[w.heap.size]? = some (.cells a T (0, 0)) ∧ w1.heap[w.heap.size + 1]? = some (.cells b U (0, 0)) ∧ w1.heap[w.heap.size + 1 + 1]? = some (.cells r V (0, 0)) ∧ Below w.heap.size w w1 ∧ w.heap.size + 1 + 1 + 1 ≤ w1.heap.size := by
  have hs : (((w.alloc (.cells a T)).alloc (.cells b U)).alloc (.cells r V)).heap.size = w.heap.size + 1 + 1 + 1 := by simp
  have h := hB.size
  rw [hs] at h hB
  refine ⟨?_, ?_, ?_, ((((Below.refl _ _).alloc (Nat.le_refl _) _).alloc (by simp) _).alloc (by simp <;> omega) _).trans (hB.mono (by omega)), h⟩
  · rw [hB.block _ (by omega), Below.heap_alloc _ _ _ (by simp <;> omega), Below.heap_alloc _ _ _ (by simp)]
    exact box_new _ _
  · rw [hB.block _ (by omega), Below.heap_alloc _ _ _ (by simp)]
    have := box_new (w.alloc (.cells a T)) (.cells b U)
    rwa [show (w.alloc (.cells a T)).heap.size = w.heap.size + 1 by simp] at this
  · rw [hB.block _ (by omega)]
    have := box_new ((w.alloc (.cells a T)).alloc (.cells b U)) (.cells r V)
    rwa [show ((w.alloc (.cells a T)).alloc (.cells b U)).heap.size = w.heap.size + 1 + 1 by simp] at this
theorem fitW_shape (z : Int) : ∃ (n : Bool) (h l : Int) (k : Bool), fitW z = .returned (.tuple #[.agg #[.bool n, .int .u64 h, .int .u64 l], .bool k]) := by
  unfold fitW
  split
  · exact ⟨_, _, _, _, rfl⟩
  · exact ⟨_, _, _, _, rfl⟩
theorem addE_shape (n : Bool) (h l : Int) (m : Bool) (i j : Int) : ∃ (r : Bool) (x y : Int) (k : Bool), addE n h l m i j = .returned (.tuple #[.agg #[.bool r, .int .u64 x, .int .u64 y], .bool k]) := by
  unfold addE
  split
  · exact fitW_shape _
  · exact ⟨_, _, _, _, rfl⟩

set_option maxRecDepth 100000 in
set_option maxHeartbeats 1000000 in
theorem specSubWide (n0 : Bool) (h0 l0 : Int) (n1 : Bool) (h1 l1 : Int) (hp0 : 0 ≤ h0) (hp1 : 0 ≤ h1) (lp0 : 0 ≤ l0) (lq0 : l0 < 18446744073709551616) (lp1 : 0 ≤ l1) (lq1 : l1 < 18446744073709551616) (w : World) :
    Calls Try.prog 42 #[.agg #[.bool n0, .int .u64 h0, .int .u64 l0], .agg #[.bool n1, .int .u64 h1, .int .u64 l1]] w fun e w' => e = addE n0 h0 l0 (negV n1 h1 l1) h1 l1 ∧ Below w.heap.size w w' := by
  obtain ⟨r, x, y, k, hadd⟩ := addE_shape n0 h0 l0 (negV n1 h1 l1) h1 l1
  have HADD := Lib.hid hadd
  clear hadd
  go_enter Try.func42, Try.ntmps42
  go_wp2_with fail
  go_region_with (first
    | (go_at_call 65; refine (specNegWide n1 h1 l1 _).mono ?_; rintro e w1 ⟨rfl, hB1⟩; obtain ⟨hA, _, hR, hBB, hs⟩ := box3 (below_of_drew hB1); have HB := Lib.hid hBB; clear hBB hB1; have hca0 : w1.cell? ⟨w.heap.size, 0, none⟩ = some (.bool n0) := cell_blk hA 0; have hfa0 := free_blk hA 0; have hca1 : w1.cell? ⟨w.heap.size, 1, none⟩ = some (.int .u64 h0) := cell_blk hA 1; have hfa1 := free_blk hA 1; have hca2 : w1.cell? ⟨w.heap.size, 2, none⟩ = some (.int .u64 l0) := cell_blk hA 2; have hfa2 := free_blk hA 2; have hcr0 : w1.cell? ⟨w.heap.size + 1 + 1, 0, none⟩ = some (.bool false) := cell_blk hR 0; have hfr0 := free_blk hR 0; have hcr1 : w1.cell? ⟨w.heap.size + 1 + 1, 1, none⟩ = some (.int .u64 0) := cell_blk hR 1; have hfr1 := free_blk hR 1; have hcr2 : w1.cell? ⟨w.heap.size + 1 + 1, 2, none⟩ = some (.int .u64 0) := cell_blk hR 2; have hfr2 := free_blk hR 2; clear hA hR)
    | (go_at_call 22; refine (specAddWide n0 h0 l0 (negV n1 h1 l1) h1 l1 hp0 hp1 lp0 lq0 lp1 lq1 _).mono ?_; rintro e w2 ⟨rfl, hB2⟩; rw [HADD.out]; replace hcr0 : w2.cell? ⟨w.heap.size + 1 + 1, 0, none⟩ = some (.bool false) := (hB2.cell (by simp <;> omega)).trans hcr0; replace hfr0 : w2.frozen? ⟨w.heap.size + 1 + 1, 0, none⟩ = false := (hB2.frozen (by simp <;> omega)).trans hfr0; replace hcr1 : w2.cell? ⟨w.heap.size + 1 + 1, 1, none⟩ = some (.int .u64 0) := (hB2.cell (by simp <;> omega)).trans hcr1; replace hfr1 : w2.frozen? ⟨w.heap.size + 1 + 1, 1, none⟩ = false := (hB2.frozen (by simp <;> omega)).trans hfr1; replace hcr2 : w2.cell? ⟨w.heap.size + 1 + 1, 2, none⟩ = some (.int .u64 0) := (hB2.cell (by simp <;> omega)).trans hcr2; replace hfr2 : w2.frozen? ⟨w.heap.size + 1 + 1, 2, none⟩ = false := (hB2.frozen (by simp <;> omega)).trans hfr2; have HB2 : Hid (Below w.heap.size w w2) := HB.out.trans (hB2.mono (by omega)); clear hB2))
  all_goals (go_wp2_with fail)
  all_goals (try simp only [Exit.inBlock, Exit.then])
  all_goals refine bodyPost_ret (v := .tuple #[.agg #[.bool r, .int .u64 x, .int .u64 y], .bool k]) ?_ rfl ⟨HADD.out.symm, ?_⟩
  all_goals first
    | (rw [results_cell_tmp rfl]; go_simp; done)
    | repeat' (first | assumption | exact Below.refl _ _ | exact HB2.out | refine Below.alloc ?_ (by simp <;> omega) _ | refine Below.setCell ?_ (by simp <;> omega) _)

theorem wideC_sv (x : Int) : sv (decide (x < 0)) ((x.natAbs : Int) / 18446744073709551616 * 18446744073709551616 + (x.natAbs : Int) % 18446744073709551616) = x := by
  by_cases h : x < 0 <;> simp [sv, h] <;> omega
theorem wideC_ok {x : Int} (hx : RoomW x) : okV (decide (x < 0)) ((x.natAbs : Int) / 18446744073709551616) ((x.natAbs : Int) % 18446744073709551616) = true := by
  have h1 : (x.natAbs : Int) / 18446744073709551616 < 9223372036854775808 := by unfold RoomW at hx; omega
  exact okV_mk h1 (fun h => by have := of_decide_eq_true h; omega)
theorem wideC_neg {x : Int} (hx : RoomW x) : sv (negV (decide (x < 0)) ((x.natAbs : Int) / 18446744073709551616) ((x.natAbs : Int) % 18446744073709551616)) ((x.natAbs : Int) / 18446744073709551616 * 18446744073709551616 + (x.natAbs : Int) % 18446744073709551616) = -x := by
  have hk := wideC_ok hx
  unfold negV
  by_cases h0 : x = 0
  · subst h0
    simp [sv]
  · rw [if_pos ⟨hk, by omega⟩]
    by_cases h : x < 0 <;> simp [sv, h] <;> omega
theorem wideC_negok {x : Int} (hx : RoomW x) : okV (negV (decide (x < 0)) ((x.natAbs : Int) / 18446744073709551616) ((x.natAbs : Int) % 18446744073709551616)) ((x.natAbs : Int) / 18446744073709551616) ((x.natAbs : Int) % 18446744073709551616) = true := by
  have h1 : (x.natAbs : Int) / 18446744073709551616 < 9223372036854775808 := by unfold RoomW at hx; omega
  refine okV_mk h1 (fun h => ?_)
  by_cases h0 : x = 0
  · subst h0
    simp [negV, okV] at h
  · omega
/-- THE DIFFERENCE of numbers that have room. -/
theorem specSubW (x y : Int) (hx : RoomW x) (hy : RoomW y) (w : World) :
    Calls Try.prog 42 #[wideC x, wideC y] w fun e w' => e = fitW (x - y) ∧ Below w.heap.size w w' := by
  refine (specSubWide _ _ _ _ _ _ (by omega) (by omega) (by omega) (by omega) (by omega) (by omega) w).mono fun e w1 h => ⟨h.1.trans ?_, h.2⟩
  rw [← addE_ok (wideC_ok hx) (wideC_negok hy) rfl, wideC_sv, wideC_neg hy, Int.sub_eq_add_neg]
/-- An int as a wide number. -/
theorem specWideOfW (x : Int) (x0 : -9223372036854775808 ≤ x) (x1 : x ≤ 9223372036854775807) (w : World) :
    Calls Try.prog 17 #[.int .i64 x] w fun e w' => e = .returned (wideC x) ∧ Below w.heap.size w w' := by
  refine (specWideOf x x0 x1 w).mono fun e w1 h => ⟨h.1.trans ?_, h.2⟩
  unfold wideC
  rw [show (x.natAbs : Int) / 18446744073709551616 = 0 by omega, show (x.natAbs : Int) % 18446744073709551616 = x.natAbs by omega]
theorem fitW_in {z : Int} (h : RoomW z) : fitW z = .returned (.tuple #[wideC z, .bool true]) := by rw [fitW, if_pos h]
end Go.Proofs.Ytjmlpeapbealfaa
