
/-
  Wide numbers of the program: the sum.
-/
import Derived.Test.YtapdocfifgnjgaaDoorImpC
import Derived.Deep.RegionWith
namespace Go.Proofs.YtapdocfifgnjgaaDoor
open Go.RowKit

set_option maxRecDepth 100000 in
set_option maxHeartbeats 1000000 in
theorem implAdd_no0 (n0 : Bool) (h0 l0 : Int) (n1 : Bool) (h1 l1 : Int) (hp0 : 0 ≤ h0) (_hp1 : 0 ≤ h1) (lp0 : 0 ≤ l0) (_lq0 : l0 < 18446744073709551616) (_lp1 : 0 ≤ l1) (_lq1 : l1 < 18446744073709551616) (hk0 : okV n0 h0 l0 = false) (w : World) :
    Calls Tryd.prog 23 #[.agg #[.bool n0, .int .u64 h0, .int .u64 l0], .agg #[.bool n1, .int .u64 h1, .int .u64 l1]] w fun e w' => e = .returned (.tuple #[.agg #[.bool false, .int .u64 0, .int .u64 0], .bool false]) ∧ Below w.heap.size w w' := by
  go_enter Tryd.func23, Tryd.ntmps23
  go_wp2_with fail
  refine (implWideOk n0 h0 l0 hp0 lp0 _).mono ?_
  rintro e w1 ⟨rfl, hB1⟩
  rw [hk0]
  have hca0 : w1.cell? ⟨w.heap.size, 0, none⟩ = some (.bool n0) := by rw [hB1.cell (by simp <;> omega)]; go_simp
  have hfa0 : w1.frozen? ⟨w.heap.size, 0, none⟩ = false := by rw [hB1.frozen (by simp <;> omega)]; go_simp
  have hca1 : w1.cell? ⟨w.heap.size, 1, none⟩ = some (.int .u64 h0) := by rw [hB1.cell (by simp <;> omega)]; go_simp
  have hfa1 : w1.frozen? ⟨w.heap.size, 1, none⟩ = false := by rw [hB1.frozen (by simp <;> omega)]; go_simp
  have hca2 : w1.cell? ⟨w.heap.size, 2, none⟩ = some (.int .u64 l0) := by rw [hB1.cell (by simp <;> omega)]; go_simp
  have hfa2 : w1.frozen? ⟨w.heap.size, 2, none⟩ = false := by rw [hB1.frozen (by simp <;> omega)]; go_simp
  have hcb0 : w1.cell? ⟨w.heap.size + 1, 0, none⟩ = some (.bool n1) := by rw [hB1.cell (by simp <;> omega)]; go_simp
  have hfb0 : w1.frozen? ⟨w.heap.size + 1, 0, none⟩ = false := by rw [hB1.frozen (by simp <;> omega)]; go_simp
  have hcb1 : w1.cell? ⟨w.heap.size + 1, 1, none⟩ = some (.int .u64 h1) := by rw [hB1.cell (by simp <;> omega)]; go_simp
  have hfb1 : w1.frozen? ⟨w.heap.size + 1, 1, none⟩ = false := by rw [hB1.frozen (by simp <;> omega)]; go_simp
  have hcb2 : w1.cell? ⟨w.heap.size + 1, 2, none⟩ = some (.int .u64 l1) := by rw [hB1.cell (by simp <;> omega)]; go_simp
  have hfb2 : w1.frozen? ⟨w.heap.size + 1, 2, none⟩ = false := by rw [hB1.frozen (by simp <;> omega)]; go_simp
  have hcr0 : w1.cell? ⟨w.heap.size + 1 + 1, 0, none⟩ = some (.bool false) := by rw [hB1.cell (by simp <;> omega)]; go_simp
  have hfr0 : w1.frozen? ⟨w.heap.size + 1 + 1, 0, none⟩ = false := by rw [hB1.frozen (by simp <;> omega)]; go_simp
  have hcr1 : w1.cell? ⟨w.heap.size + 1 + 1, 1, none⟩ = some (.int .u64 0) := by rw [hB1.cell (by simp <;> omega)]; go_simp
  have hfr1 : w1.frozen? ⟨w.heap.size + 1 + 1, 1, none⟩ = false := by rw [hB1.frozen (by simp <;> omega)]; go_simp
  have hcr2 : w1.cell? ⟨w.heap.size + 1 + 1, 2, none⟩ = some (.int .u64 0) := by rw [hB1.cell (by simp <;> omega)]; go_simp
  have hfr2 : w1.frozen? ⟨w.heap.size + 1 + 1, 2, none⟩ = false := by rw [hB1.frozen (by simp <;> omega)]; go_simp
  have HB1 : Hid (Below w.heap.size w w1) := Lib.hid (((((Below.refl _ _).alloc (Nat.le_refl _) _).alloc (by simp) _).alloc (by simp <;> omega) _).trans (hB1.mono (by simp <;> omega)))
  have hs1 : w.heap.size + 1 + 1 + 1 ≤ w1.heap.size := by have := hB1.size; simpa using this
  clear hB1
  go_wp2_with fail
  have HB := HB1
  (try simp only [Exit.inBlock, Exit.then])
  refine bodyPost_ret (v := .tuple #[.agg #[.bool false, .int .u64 0, .int .u64 0], .bool false]) ?_ rfl ⟨rfl, ?_⟩
  · rw [results_cell_tmp rfl]
    go_simp
  · repeat' (first | assumption | exact Below.refl _ _ | exact HB.out | refine Below.alloc ?_ (by simp <;> omega) _ | refine Below.setCell ?_ (by simp <;> omega) _)
set_option maxRecDepth 100000 in
set_option maxHeartbeats 1000000 in
theorem implAdd_no1 (n0 : Bool) (h0 l0 : Int) (n1 : Bool) (h1 l1 : Int) (hp0 : 0 ≤ h0) (hp1 : 0 ≤ h1) (lp0 : 0 ≤ l0) (_lq0 : l0 < 18446744073709551616) (lp1 : 0 ≤ l1) (_lq1 : l1 < 18446744073709551616) (hk0 : okV n0 h0 l0 = true) (hk1 : okV n1 h1 l1 = false) (w : World) :
    Calls Tryd.prog 23 #[.agg #[.bool n0, .int .u64 h0, .int .u64 l0], .agg #[.bool n1, .int .u64 h1, .int .u64 l1]] w fun e w' => e = .returned (.tuple #[.agg #[.bool false, .int .u64 0, .int .u64 0], .bool false]) ∧ Below w.heap.size w w' := by
  go_enter Tryd.func23, Tryd.ntmps23
  go_wp2_with fail
  refine (implWideOk n0 h0 l0 hp0 lp0 _).mono ?_
  rintro e w1 ⟨rfl, hB1⟩
  rw [hk0]
  have hca0 : w1.cell? ⟨w.heap.size, 0, none⟩ = some (.bool n0) := by rw [hB1.cell (by simp <;> omega)]; go_simp
  have hfa0 : w1.frozen? ⟨w.heap.size, 0, none⟩ = false := by rw [hB1.frozen (by simp <;> omega)]; go_simp
  have hca1 : w1.cell? ⟨w.heap.size, 1, none⟩ = some (.int .u64 h0) := by rw [hB1.cell (by simp <;> omega)]; go_simp
  have hfa1 : w1.frozen? ⟨w.heap.size, 1, none⟩ = false := by rw [hB1.frozen (by simp <;> omega)]; go_simp
  have hca2 : w1.cell? ⟨w.heap.size, 2, none⟩ = some (.int .u64 l0) := by rw [hB1.cell (by simp <;> omega)]; go_simp
  have hfa2 : w1.frozen? ⟨w.heap.size, 2, none⟩ = false := by rw [hB1.frozen (by simp <;> omega)]; go_simp
  have hcb0 : w1.cell? ⟨w.heap.size + 1, 0, none⟩ = some (.bool n1) := by rw [hB1.cell (by simp <;> omega)]; go_simp
  have hfb0 : w1.frozen? ⟨w.heap.size + 1, 0, none⟩ = false := by rw [hB1.frozen (by simp <;> omega)]; go_simp
  have hcb1 : w1.cell? ⟨w.heap.size + 1, 1, none⟩ = some (.int .u64 h1) := by rw [hB1.cell (by simp <;> omega)]; go_simp
  have hfb1 : w1.frozen? ⟨w.heap.size + 1, 1, none⟩ = false := by rw [hB1.frozen (by simp <;> omega)]; go_simp
  have hcb2 : w1.cell? ⟨w.heap.size + 1, 2, none⟩ = some (.int .u64 l1) := by rw [hB1.cell (by simp <;> omega)]; go_simp
  have hfb2 : w1.frozen? ⟨w.heap.size + 1, 2, none⟩ = false := by rw [hB1.frozen (by simp <;> omega)]; go_simp
  have hcr0 : w1.cell? ⟨w.heap.size + 1 + 1, 0, none⟩ = some (.bool false) := by rw [hB1.cell (by simp <;> omega)]; go_simp
  have hfr0 : w1.frozen? ⟨w.heap.size + 1 + 1, 0, none⟩ = false := by rw [hB1.frozen (by simp <;> omega)]; go_simp
  have hcr1 : w1.cell? ⟨w.heap.size + 1 + 1, 1, none⟩ = some (.int .u64 0) := by rw [hB1.cell (by simp <;> omega)]; go_simp
  have hfr1 : w1.frozen? ⟨w.heap.size + 1 + 1, 1, none⟩ = false := by rw [hB1.frozen (by simp <;> omega)]; go_simp
  have hcr2 : w1.cell? ⟨w.heap.size + 1 + 1, 2, none⟩ = some (.int .u64 0) := by rw [hB1.cell (by simp <;> omega)]; go_simp
  have hfr2 : w1.frozen? ⟨w.heap.size + 1 + 1, 2, none⟩ = false := by rw [hB1.frozen (by simp <;> omega)]; go_simp
  have HB1 : Hid (Below w.heap.size w w1) := Lib.hid (((((Below.refl _ _).alloc (Nat.le_refl _) _).alloc (by simp) _).alloc (by simp <;> omega) _).trans (hB1.mono (by simp <;> omega)))
  have hs1 : w.heap.size + 1 + 1 + 1 ≤ w1.heap.size := by have := hB1.size; simpa using this
  clear hB1
  go_wp2_with fail
  refine (implWideOk n1 h1 l1 hp1 lp1 _).mono ?_
  rintro e w2 ⟨rfl, hB2⟩
  rw [hk1]
  replace hca0 : w2.cell? ⟨w.heap.size, 0, none⟩ = some (.bool n0) := (hB2.cell (by simp <;> omega)).trans hca0
  replace hfa0 : w2.frozen? ⟨w.heap.size, 0, none⟩ = false := (hB2.frozen (by simp <;> omega)).trans hfa0
  replace hca1 : w2.cell? ⟨w.heap.size, 1, none⟩ = some (.int .u64 h0) := (hB2.cell (by simp <;> omega)).trans hca1
  replace hfa1 : w2.frozen? ⟨w.heap.size, 1, none⟩ = false := (hB2.frozen (by simp <;> omega)).trans hfa1
  replace hca2 : w2.cell? ⟨w.heap.size, 2, none⟩ = some (.int .u64 l0) := (hB2.cell (by simp <;> omega)).trans hca2
  replace hfa2 : w2.frozen? ⟨w.heap.size, 2, none⟩ = false := (hB2.frozen (by simp <;> omega)).trans hfa2
  replace hcb0 : w2.cell? ⟨w.heap.size + 1, 0, none⟩ = some (.bool n1) := (hB2.cell (by simp <;> omega)).trans hcb0
  replace hfb0 : w2.frozen? ⟨w.heap.size + 1, 0, none⟩ = false := (hB2.frozen (by simp <;> omega)).trans hfb0
  replace hcb1 : w2.cell? ⟨w.heap.size + 1, 1, none⟩ = some (.int .u64 h1) := (hB2.cell (by simp <;> omega)).trans hcb1
  replace hfb1 : w2.frozen? ⟨w.heap.size + 1, 1, none⟩ = false := (hB2.frozen (by simp <;> omega)).trans hfb1
  replace hcb2 : w2.cell? ⟨w.heap.size + 1, 2, none⟩ = some (.int .u64 l1) := (hB2.cell (by simp <;> omega)).trans hcb2
  replace hfb2 : w2.frozen? ⟨w.heap.size + 1, 2, none⟩ = false := (hB2.frozen (by simp <;> omega)).trans hfb2
  replace hcr0 : w2.cell? ⟨w.heap.size + 1 + 1, 0, none⟩ = some (.bool false) := (hB2.cell (by simp <;> omega)).trans hcr0
  replace hfr0 : w2.frozen? ⟨w.heap.size + 1 + 1, 0, none⟩ = false := (hB2.frozen (by simp <;> omega)).trans hfr0
  replace hcr1 : w2.cell? ⟨w.heap.size + 1 + 1, 1, none⟩ = some (.int .u64 0) := (hB2.cell (by simp <;> omega)).trans hcr1
  replace hfr1 : w2.frozen? ⟨w.heap.size + 1 + 1, 1, none⟩ = false := (hB2.frozen (by simp <;> omega)).trans hfr1
  replace hcr2 : w2.cell? ⟨w.heap.size + 1 + 1, 2, none⟩ = some (.int .u64 0) := (hB2.cell (by simp <;> omega)).trans hcr2
  replace hfr2 : w2.frozen? ⟨w.heap.size + 1 + 1, 2, none⟩ = false := (hB2.frozen (by simp <;> omega)).trans hfr2
  have HB2 : Hid (Below w.heap.size w w2) := Lib.hid (HB1.out.trans (hB2.mono (by omega)))
  have hs2 := Nat.le_trans hs1 hB2.size
  clear hB2 HB1 hs1
  go_wp2_with fail
  have HB := HB2
  (try simp only [Exit.inBlock, Exit.then])
  refine bodyPost_ret (v := .tuple #[.agg #[.bool false, .int .u64 0, .int .u64 0], .bool false]) ?_ rfl ⟨rfl, ?_⟩
  · rw [results_cell_tmp rfl]
    go_simp
  · repeat' (first | assumption | exact Below.refl _ _ | exact HB.out | refine Below.alloc ?_ (by simp <;> omega) _ | refine Below.setCell ?_ (by simp <;> omega) _)
set_option maxRecDepth 100000 in
set_option maxHeartbeats 1000000 in
theorem implAdd_same_ok (n0 : Bool) (h0 l0 : Int) (h1 l1 s c : Int) (hp0 : 0 ≤ h0) (hp1 : 0 ≤ h1) (lp0 : 0 ≤ l0) (_lq0 : l0 < 18446744073709551616) (lp1 : 0 ≤ l1) (_lq1 : l1 < 18446744073709551616) (hk0 : okV n0 h0 l0 = true) (hk1 : okV n0 h1 l1 = true) (hq0 : h0 < 9223372036854775808) (hq1 : h1 < 9223372036854775808) (s0 : 0 ≤ s) (s1 : s < 18446744073709551616) (c0 : 0 ≤ c) (c1 : c ≤ 1) (hsc : l0 + l1 = c * 18446744073709551616 + s) (hk2 : okV n0 (h0 + h1 + c) s = true) (w : World) :
    Calls Tryd.prog 23 #[.agg #[.bool n0, .int .u64 h0, .int .u64 l0], .agg #[.bool n0, .int .u64 h1, .int .u64 l1]] w fun e w' => e = .returned (.tuple #[.agg #[.bool n0, .int .u64 (h0 + h1 + c), .int .u64 s], .bool true]) ∧ Below w.heap.size w w' := by
  have hA1 : ∀ w, (callFunc 52 #[.int .u64 l0, .int .u64 l1, .int .u64 0]).run Tryd.prog w = .ok (.value (.tuple #[.int .u64 s, .int .u64 c])) w := fun w => add64At l0 l1 0 s c lp0 lp1 (by omega) (by omega) s0 s1 (by omega) w
  have hA2 : ∀ w, (callFunc 52 #[.int .u64 h0, .int .u64 h1, .int .u64 c]).run Tryd.prog w = .ok (.value (.tuple #[.int .u64 (h0 + h1 + c), .int .u64 0])) w := fun w => add64At h0 h1 c (h0 + h1 + c) 0 hp0 hp1 c0 c1 (by omega) (by omega) (by omega) w
  go_enter Tryd.func23, Tryd.ntmps23
  go_wp2_with fail
  refine (implWideOk n0 h0 l0 hp0 lp0 _).mono ?_
  rintro e w1 ⟨rfl, hB1⟩
  rw [hk0]
  have hca0 : w1.cell? ⟨w.heap.size, 0, none⟩ = some (.bool n0) := by rw [hB1.cell (by simp <;> omega)]; go_simp
  have hfa0 : w1.frozen? ⟨w.heap.size, 0, none⟩ = false := by rw [hB1.frozen (by simp <;> omega)]; go_simp
  have hca1 : w1.cell? ⟨w.heap.size, 1, none⟩ = some (.int .u64 h0) := by rw [hB1.cell (by simp <;> omega)]; go_simp
  have hfa1 : w1.frozen? ⟨w.heap.size, 1, none⟩ = false := by rw [hB1.frozen (by simp <;> omega)]; go_simp
  have hca2 : w1.cell? ⟨w.heap.size, 2, none⟩ = some (.int .u64 l0) := by rw [hB1.cell (by simp <;> omega)]; go_simp
  have hfa2 : w1.frozen? ⟨w.heap.size, 2, none⟩ = false := by rw [hB1.frozen (by simp <;> omega)]; go_simp
  have hcb0 : w1.cell? ⟨w.heap.size + 1, 0, none⟩ = some (.bool n0) := by rw [hB1.cell (by simp <;> omega)]; go_simp
  have hfb0 : w1.frozen? ⟨w.heap.size + 1, 0, none⟩ = false := by rw [hB1.frozen (by simp <;> omega)]; go_simp
  have hcb1 : w1.cell? ⟨w.heap.size + 1, 1, none⟩ = some (.int .u64 h1) := by rw [hB1.cell (by simp <;> omega)]; go_simp
  have hfb1 : w1.frozen? ⟨w.heap.size + 1, 1, none⟩ = false := by rw [hB1.frozen (by simp <;> omega)]; go_simp
  have hcb2 : w1.cell? ⟨w.heap.size + 1, 2, none⟩ = some (.int .u64 l1) := by rw [hB1.cell (by simp <;> omega)]; go_simp
  have hfb2 : w1.frozen? ⟨w.heap.size + 1, 2, none⟩ = false := by rw [hB1.frozen (by simp <;> omega)]; go_simp
  have hcr0 : w1.cell? ⟨w.heap.size + 1 + 1, 0, none⟩ = some (.bool false) := by rw [hB1.cell (by simp <;> omega)]; go_simp
  have hfr0 : w1.frozen? ⟨w.heap.size + 1 + 1, 0, none⟩ = false := by rw [hB1.frozen (by simp <;> omega)]; go_simp
  have hcr1 : w1.cell? ⟨w.heap.size + 1 + 1, 1, none⟩ = some (.int .u64 0) := by rw [hB1.cell (by simp <;> omega)]; go_simp
  have hfr1 : w1.frozen? ⟨w.heap.size + 1 + 1, 1, none⟩ = false := by rw [hB1.frozen (by simp <;> omega)]; go_simp
  have hcr2 : w1.cell? ⟨w.heap.size + 1 + 1, 2, none⟩ = some (.int .u64 0) := by rw [hB1.cell (by simp <;> omega)]; go_simp
  have hfr2 : w1.frozen? ⟨w.heap.size + 1 + 1, 2, none⟩ = false := by rw [hB1.frozen (by simp <;> omega)]; go_simp
  have HB1 : Hid (Below w.heap.size w w1) := Lib.hid (((((Below.refl _ _).alloc (Nat.le_refl _) _).alloc (by simp) _).alloc (by simp <;> omega) _).trans (hB1.mono (by simp <;> omega)))
  have hs1 : w.heap.size + 1 + 1 + 1 ≤ w1.heap.size := by have := hB1.size; simpa using this
  clear hB1
  go_wp2_with fail
  refine (implWideOk n0 h1 l1 hp1 lp1 _).mono ?_
  rintro e w2 ⟨rfl, hB2⟩
  rw [hk1]
  replace hca0 : w2.cell? ⟨w.heap.size, 0, none⟩ = some (.bool n0) := (hB2.cell (by simp <;> omega)).trans hca0
  replace hfa0 : w2.frozen? ⟨w.heap.size, 0, none⟩ = false := (hB2.frozen (by simp <;> omega)).trans hfa0
  replace hca1 : w2.cell? ⟨w.heap.size, 1, none⟩ = some (.int .u64 h0) := (hB2.cell (by simp <;> omega)).trans hca1
  replace hfa1 : w2.frozen? ⟨w.heap.size, 1, none⟩ = false := (hB2.frozen (by simp <;> omega)).trans hfa1
  replace hca2 : w2.cell? ⟨w.heap.size, 2, none⟩ = some (.int .u64 l0) := (hB2.cell (by simp <;> omega)).trans hca2
  replace hfa2 : w2.frozen? ⟨w.heap.size, 2, none⟩ = false := (hB2.frozen (by simp <;> omega)).trans hfa2
  replace hcb0 : w2.cell? ⟨w.heap.size + 1, 0, none⟩ = some (.bool n0) := (hB2.cell (by simp <;> omega)).trans hcb0
  replace hfb0 : w2.frozen? ⟨w.heap.size + 1, 0, none⟩ = false := (hB2.frozen (by simp <;> omega)).trans hfb0
  replace hcb1 : w2.cell? ⟨w.heap.size + 1, 1, none⟩ = some (.int .u64 h1) := (hB2.cell (by simp <;> omega)).trans hcb1
  replace hfb1 : w2.frozen? ⟨w.heap.size + 1, 1, none⟩ = false := (hB2.frozen (by simp <;> omega)).trans hfb1
  replace hcb2 : w2.cell? ⟨w.heap.size + 1, 2, none⟩ = some (.int .u64 l1) := (hB2.cell (by simp <;> omega)).trans hcb2
  replace hfb2 : w2.frozen? ⟨w.heap.size + 1, 2, none⟩ = false := (hB2.frozen (by simp <;> omega)).trans hfb2
  replace hcr0 : w2.cell? ⟨w.heap.size + 1 + 1, 0, none⟩ = some (.bool false) := (hB2.cell (by simp <;> omega)).trans hcr0
  replace hfr0 : w2.frozen? ⟨w.heap.size + 1 + 1, 0, none⟩ = false := (hB2.frozen (by simp <;> omega)).trans hfr0
  replace hcr1 : w2.cell? ⟨w.heap.size + 1 + 1, 1, none⟩ = some (.int .u64 0) := (hB2.cell (by simp <;> omega)).trans hcr1
  replace hfr1 : w2.frozen? ⟨w.heap.size + 1 + 1, 1, none⟩ = false := (hB2.frozen (by simp <;> omega)).trans hfr1
  replace hcr2 : w2.cell? ⟨w.heap.size + 1 + 1, 2, none⟩ = some (.int .u64 0) := (hB2.cell (by simp <;> omega)).trans hcr2
  replace hfr2 : w2.frozen? ⟨w.heap.size + 1 + 1, 2, none⟩ = false := (hB2.frozen (by simp <;> omega)).trans hfr2
  have HB2 : Hid (Below w.heap.size w w2) := Lib.hid (HB1.out.trans (hB2.mono (by omega)))
  have hs2 := Nat.le_trans hs1 hB2.size
  clear hB2 HB1 hs1
  go_wp2_with (first | simp only | simp only [hA2])
  refine (implIfOk n0 (h0 + h1 + c) s (by omega) s0 _).mono ?_
  rintro e w3 ⟨rfl, hB3⟩
  rw [okE, if_pos hk2]
  replace hca0 : w3.cell? ⟨w.heap.size, 0, none⟩ = some (.bool n0) := (hB3.cell (by simp <;> omega)).trans hca0
  replace hfa0 : w3.frozen? ⟨w.heap.size, 0, none⟩ = false := (hB3.frozen (by simp <;> omega)).trans hfa0
  replace hca1 : w3.cell? ⟨w.heap.size, 1, none⟩ = some (.int .u64 h0) := (hB3.cell (by simp <;> omega)).trans hca1
  replace hfa1 : w3.frozen? ⟨w.heap.size, 1, none⟩ = false := (hB3.frozen (by simp <;> omega)).trans hfa1
  replace hca2 : w3.cell? ⟨w.heap.size, 2, none⟩ = some (.int .u64 l0) := (hB3.cell (by simp <;> omega)).trans hca2
  replace hfa2 : w3.frozen? ⟨w.heap.size, 2, none⟩ = false := (hB3.frozen (by simp <;> omega)).trans hfa2
  replace hcb0 : w3.cell? ⟨w.heap.size + 1, 0, none⟩ = some (.bool n0) := (hB3.cell (by simp <;> omega)).trans hcb0
  replace hfb0 : w3.frozen? ⟨w.heap.size + 1, 0, none⟩ = false := (hB3.frozen (by simp <;> omega)).trans hfb0
  replace hcb1 : w3.cell? ⟨w.heap.size + 1, 1, none⟩ = some (.int .u64 h1) := (hB3.cell (by simp <;> omega)).trans hcb1
  replace hfb1 : w3.frozen? ⟨w.heap.size + 1, 1, none⟩ = false := (hB3.frozen (by simp <;> omega)).trans hfb1
  replace hcb2 : w3.cell? ⟨w.heap.size + 1, 2, none⟩ = some (.int .u64 l1) := (hB3.cell (by simp <;> omega)).trans hcb2
  replace hfb2 : w3.frozen? ⟨w.heap.size + 1, 2, none⟩ = false := (hB3.frozen (by simp <;> omega)).trans hfb2
  replace hcr0 : w3.cell? ⟨w.heap.size + 1 + 1, 0, none⟩ = some (.bool false) := (hB3.cell (by simp <;> omega)).trans hcr0
  replace hfr0 : w3.frozen? ⟨w.heap.size + 1 + 1, 0, none⟩ = false := (hB3.frozen (by simp <;> omega)).trans hfr0
  replace hcr1 : w3.cell? ⟨w.heap.size + 1 + 1, 1, none⟩ = some (.int .u64 0) := (hB3.cell (by simp <;> omega)).trans hcr1
  replace hfr1 : w3.frozen? ⟨w.heap.size + 1 + 1, 1, none⟩ = false := (hB3.frozen (by simp <;> omega)).trans hfr1
  replace hcr2 : w3.cell? ⟨w.heap.size + 1 + 1, 2, none⟩ = some (.int .u64 0) := (hB3.cell (by simp <;> omega)).trans hcr2
  replace hfr2 : w3.frozen? ⟨w.heap.size + 1 + 1, 2, none⟩ = false := (hB3.frozen (by simp <;> omega)).trans hfr2
  have HB3 : Hid (Below w.heap.size w w3) := Lib.hid (HB2.out.trans (hB3.mono (by omega)))
  have hs3 := Nat.le_trans hs2 hB3.size
  clear hB3 HB2 hs2
  have HB := HB3
  clear hA1 hA2
  go_wp2_with fail
  (try simp only [Exit.inBlock, Exit.then])
  refine bodyPost_ret (v := .tuple #[.agg #[.bool n0, .int .u64 (h0 + h1 + c), .int .u64 s], .bool true]) ?_ rfl ⟨rfl, ?_⟩
  · rw [results_cell_tmp rfl]
    go_simp
  · repeat' (first | assumption | exact Below.refl _ _ | exact HB.out | refine Below.alloc ?_ (by simp <;> omega) _ | refine Below.setCell ?_ (by simp <;> omega) _)
set_option maxRecDepth 100000 in
set_option maxHeartbeats 1000000 in
theorem implAdd_same_no (n0 : Bool) (h0 l0 : Int) (h1 l1 s c : Int) (hp0 : 0 ≤ h0) (hp1 : 0 ≤ h1) (lp0 : 0 ≤ l0) (_lq0 : l0 < 18446744073709551616) (lp1 : 0 ≤ l1) (_lq1 : l1 < 18446744073709551616) (hk0 : okV n0 h0 l0 = true) (hk1 : okV n0 h1 l1 = true) (hq0 : h0 < 9223372036854775808) (hq1 : h1 < 9223372036854775808) (s0 : 0 ≤ s) (s1 : s < 18446744073709551616) (c0 : 0 ≤ c) (c1 : c ≤ 1) (hsc : l0 + l1 = c * 18446744073709551616 + s) (hk2 : ¬ okV n0 (h0 + h1 + c) s = true) (w : World) :
    Calls Tryd.prog 23 #[.agg #[.bool n0, .int .u64 h0, .int .u64 l0], .agg #[.bool n0, .int .u64 h1, .int .u64 l1]] w fun e w' => e = .returned (.tuple #[.agg #[.bool false, .int .u64 0, .int .u64 0], .bool false]) ∧ Below w.heap.size w w' := by
  have hA1 : ∀ w, (callFunc 52 #[.int .u64 l0, .int .u64 l1, .int .u64 0]).run Tryd.prog w = .ok (.value (.tuple #[.int .u64 s, .int .u64 c])) w := fun w => add64At l0 l1 0 s c lp0 lp1 (by omega) (by omega) s0 s1 (by omega) w
  have hA2 : ∀ w, (callFunc 52 #[.int .u64 h0, .int .u64 h1, .int .u64 c]).run Tryd.prog w = .ok (.value (.tuple #[.int .u64 (h0 + h1 + c), .int .u64 0])) w := fun w => add64At h0 h1 c (h0 + h1 + c) 0 hp0 hp1 c0 c1 (by omega) (by omega) (by omega) w
  go_enter Tryd.func23, Tryd.ntmps23
  go_wp2_with fail
  refine (implWideOk n0 h0 l0 hp0 lp0 _).mono ?_
  rintro e w1 ⟨rfl, hB1⟩
  rw [hk0]
  have hca0 : w1.cell? ⟨w.heap.size, 0, none⟩ = some (.bool n0) := by rw [hB1.cell (by simp <;> omega)]; go_simp
  have hfa0 : w1.frozen? ⟨w.heap.size, 0, none⟩ = false := by rw [hB1.frozen (by simp <;> omega)]; go_simp
  have hca1 : w1.cell? ⟨w.heap.size, 1, none⟩ = some (.int .u64 h0) := by rw [hB1.cell (by simp <;> omega)]; go_simp
  have hfa1 : w1.frozen? ⟨w.heap.size, 1, none⟩ = false := by rw [hB1.frozen (by simp <;> omega)]; go_simp
  have hca2 : w1.cell? ⟨w.heap.size, 2, none⟩ = some (.int .u64 l0) := by rw [hB1.cell (by simp <;> omega)]; go_simp
  have hfa2 : w1.frozen? ⟨w.heap.size, 2, none⟩ = false := by rw [hB1.frozen (by simp <;> omega)]; go_simp
  have hcb0 : w1.cell? ⟨w.heap.size + 1, 0, none⟩ = some (.bool n0) := by rw [hB1.cell (by simp <;> omega)]; go_simp
  have hfb0 : w1.frozen? ⟨w.heap.size + 1, 0, none⟩ = false := by rw [hB1.frozen (by simp <;> omega)]; go_simp
  have hcb1 : w1.cell? ⟨w.heap.size + 1, 1, none⟩ = some (.int .u64 h1) := by rw [hB1.cell (by simp <;> omega)]; go_simp
  have hfb1 : w1.frozen? ⟨w.heap.size + 1, 1, none⟩ = false := by rw [hB1.frozen (by simp <;> omega)]; go_simp
  have hcb2 : w1.cell? ⟨w.heap.size + 1, 2, none⟩ = some (.int .u64 l1) := by rw [hB1.cell (by simp <;> omega)]; go_simp
  have hfb2 : w1.frozen? ⟨w.heap.size + 1, 2, none⟩ = false := by rw [hB1.frozen (by simp <;> omega)]; go_simp
  have hcr0 : w1.cell? ⟨w.heap.size + 1 + 1, 0, none⟩ = some (.bool false) := by rw [hB1.cell (by simp <;> omega)]; go_simp
  have hfr0 : w1.frozen? ⟨w.heap.size + 1 + 1, 0, none⟩ = false := by rw [hB1.frozen (by simp <;> omega)]; go_simp
  have hcr1 : w1.cell? ⟨w.heap.size + 1 + 1, 1, none⟩ = some (.int .u64 0) := by rw [hB1.cell (by simp <;> omega)]; go_simp
  have hfr1 : w1.frozen? ⟨w.heap.size + 1 + 1, 1, none⟩ = false := by rw [hB1.frozen (by simp <;> omega)]; go_simp
  have hcr2 : w1.cell? ⟨w.heap.size + 1 + 1, 2, none⟩ = some (.int .u64 0) := by rw [hB1.cell (by simp <;> omega)]; go_simp
  have hfr2 : w1.frozen? ⟨w.heap.size + 1 + 1, 2, none⟩ = false := by rw [hB1.frozen (by simp <;> omega)]; go_simp
  have HB1 : Hid (Below w.heap.size w w1) := Lib.hid (((((Below.refl _ _).alloc (Nat.le_refl _) _).alloc (by simp) _).alloc (by simp <;> omega) _).trans (hB1.mono (by simp <;> omega)))
  have hs1 : w.heap.size + 1 + 1 + 1 ≤ w1.heap.size := by have := hB1.size; simpa using this
  clear hB1
  go_wp2_with fail
  refine (implWideOk n0 h1 l1 hp1 lp1 _).mono ?_
  rintro e w2 ⟨rfl, hB2⟩
  rw [hk1]
  replace hca0 : w2.cell? ⟨w.heap.size, 0, none⟩ = some (.bool n0) := (hB2.cell (by simp <;> omega)).trans hca0
  replace hfa0 : w2.frozen? ⟨w.heap.size, 0, none⟩ = false := (hB2.frozen (by simp <;> omega)).trans hfa0
  replace hca1 : w2.cell? ⟨w.heap.size, 1, none⟩ = some (.int .u64 h0) := (hB2.cell (by simp <;> omega)).trans hca1
  replace hfa1 : w2.frozen? ⟨w.heap.size, 1, none⟩ = false := (hB2.frozen (by simp <;> omega)).trans hfa1
  replace hca2 : w2.cell? ⟨w.heap.size, 2, none⟩ = some (.int .u64 l0) := (hB2.cell (by simp <;> omega)).trans hca2
  replace hfa2 : w2.frozen? ⟨w.heap.size, 2, none⟩ = false := (hB2.frozen (by simp <;> omega)).trans hfa2
  replace hcb0 : w2.cell? ⟨w.heap.size + 1, 0, none⟩ = some (.bool n0) := (hB2.cell (by simp <;> omega)).trans hcb0
  replace hfb0 : w2.frozen? ⟨w.heap.size + 1, 0, none⟩ = false := (hB2.frozen (by simp <;> omega)).trans hfb0
  replace hcb1 : w2.cell? ⟨w.heap.size + 1, 1, none⟩ = some (.int .u64 h1) := (hB2.cell (by simp <;> omega)).trans hcb1
  replace hfb1 : w2.frozen? ⟨w.heap.size + 1, 1, none⟩ = false := (hB2.frozen (by simp <;> omega)).trans hfb1
  replace hcb2 : w2.cell? ⟨w.heap.size + 1, 2, none⟩ = some (.int .u64 l1) := (hB2.cell (by simp <;> omega)).trans hcb2
  replace hfb2 : w2.frozen? ⟨w.heap.size + 1, 2, none⟩ = false := (hB2.frozen (by simp <;> omega)).trans hfb2
  replace hcr0 : w2.cell? ⟨w.heap.size + 1 + 1, 0, none⟩ = some (.bool false) := (hB2.cell (by simp <;> omega)).trans hcr0
  replace hfr0 : w2.frozen? ⟨w.heap.size + 1 + 1, 0, none⟩ = false := (hB2.frozen (by simp <;> omega)).trans hfr0
  replace hcr1 : w2.cell? ⟨w.heap.size + 1 + 1, 1, none⟩ = some (.int .u64 0) := (hB2.cell (by simp <;> omega)).trans hcr1
  replace hfr1 : w2.frozen? ⟨w.heap.size + 1 + 1, 1, none⟩ = false := (hB2.frozen (by simp <;> omega)).trans hfr1
  replace hcr2 : w2.cell? ⟨w.heap.size + 1 + 1, 2, none⟩ = some (.int .u64 0) := (hB2.cell (by simp <;> omega)).trans hcr2
  replace hfr2 : w2.frozen? ⟨w.heap.size + 1 + 1, 2, none⟩ = false := (hB2.frozen (by simp <;> omega)).trans hfr2
  have HB2 : Hid (Below w.heap.size w w2) := Lib.hid (HB1.out.trans (hB2.mono (by omega)))
  have hs2 := Nat.le_trans hs1 hB2.size
  clear hB2 HB1 hs1
  go_wp2_with (first | simp only | simp only [hA2])
  refine (implIfOk n0 (h0 + h1 + c) s (by omega) s0 _).mono ?_
  rintro e w3 ⟨rfl, hB3⟩
  rw [okE, if_neg hk2]
  replace hca0 : w3.cell? ⟨w.heap.size, 0, none⟩ = some (.bool n0) := (hB3.cell (by simp <;> omega)).trans hca0
  replace hfa0 : w3.frozen? ⟨w.heap.size, 0, none⟩ = false := (hB3.frozen (by simp <;> omega)).trans hfa0
  replace hca1 : w3.cell? ⟨w.heap.size, 1, none⟩ = some (.int .u64 h0) := (hB3.cell (by simp <;> omega)).trans hca1
  replace hfa1 : w3.frozen? ⟨w.heap.size, 1, none⟩ = false := (hB3.frozen (by simp <;> omega)).trans hfa1
  replace hca2 : w3.cell? ⟨w.heap.size, 2, none⟩ = some (.int .u64 l0) := (hB3.cell (by simp <;> omega)).trans hca2
  replace hfa2 : w3.frozen? ⟨w.heap.size, 2, none⟩ = false := (hB3.frozen (by simp <;> omega)).trans hfa2
  replace hcb0 : w3.cell? ⟨w.heap.size + 1, 0, none⟩ = some (.bool n0) := (hB3.cell (by simp <;> omega)).trans hcb0
  replace hfb0 : w3.frozen? ⟨w.heap.size + 1, 0, none⟩ = false := (hB3.frozen (by simp <;> omega)).trans hfb0
  replace hcb1 : w3.cell? ⟨w.heap.size + 1, 1, none⟩ = some (.int .u64 h1) := (hB3.cell (by simp <;> omega)).trans hcb1
  replace hfb1 : w3.frozen? ⟨w.heap.size + 1, 1, none⟩ = false := (hB3.frozen (by simp <;> omega)).trans hfb1
  replace hcb2 : w3.cell? ⟨w.heap.size + 1, 2, none⟩ = some (.int .u64 l1) := (hB3.cell (by simp <;> omega)).trans hcb2
  replace hfb2 : w3.frozen? ⟨w.heap.size + 1, 2, none⟩ = false := (hB3.frozen (by simp <;> omega)).trans hfb2
  replace hcr0 : w3.cell? ⟨w.heap.size + 1 + 1, 0, none⟩ = some (.bool false) := (hB3.cell (by simp <;> omega)).trans hcr0
  replace hfr0 : w3.frozen? ⟨w.heap.size + 1 + 1, 0, none⟩ = false := (hB3.frozen (by simp <;> omega)).trans hfr0
  replace hcr1 : w3.cell? ⟨w.heap.size + 1 + 1, 1, none⟩ = some (.int .u64 0) := (hB3.cell (by simp <;> omega)).trans hcr1
  replace hfr1 : w3.frozen? ⟨w.heap.size + 1 + 1, 1, none⟩ = false := (hB3.frozen (by simp <;> omega)).trans hfr1
  replace hcr2 : w3.cell? ⟨w.heap.size + 1 + 1, 2, none⟩ = some (.int .u64 0) := (hB3.cell (by simp <;> omega)).trans hcr2
  replace hfr2 : w3.frozen? ⟨w.heap.size + 1 + 1, 2, none⟩ = false := (hB3.frozen (by simp <;> omega)).trans hfr2
  have HB3 : Hid (Below w.heap.size w w3) := Lib.hid (HB2.out.trans (hB3.mono (by omega)))
  have hs3 := Nat.le_trans hs2 hB3.size
  clear hB3 HB2 hs2
  have HB := HB3
  clear hA1 hA2
  go_wp2_with fail
  (try simp only [Exit.inBlock, Exit.then])
  refine bodyPost_ret (v := .tuple #[.agg #[.bool false, .int .u64 0, .int .u64 0], .bool false]) ?_ rfl ⟨rfl, ?_⟩
  · rw [results_cell_tmp rfl]
    go_simp
  · repeat' (first | assumption | exact Below.refl _ _ | exact HB.out | refine Below.alloc ?_ (by simp <;> omega) _ | refine Below.setCell ?_ (by simp <;> omega) _)
set_option maxRecDepth 100000 in
set_option maxHeartbeats 1000000 in
theorem implAdd_diff_lt (n0 : Bool) (h0 l0 : Int) (n1 : Bool) (h1 l1 : Int) (v s c g : Int) (hp0 : 0 ≤ h0) (hp1 : 0 ≤ h1) (lp0 : 0 ≤ l0) (lq0 : l0 < 18446744073709551616) (lp1 : 0 ≤ l1) (lq1 : l1 < 18446744073709551616) (hk0 : okV n0 h0 l0 = true) (hk1 : okV n1 h1 l1 = true) (hq0 : h0 < 9223372036854775808) (hq1 : h1 < 9223372036854775808) (hn : (n0 == n1) = false) (ho : ordV h0 l0 h1 l1 = v) (hv : v < 0) (s0 : 0 ≤ s) (s1 : s < 18446744073709551616) (g0 : 0 ≤ g) (c0 : 0 ≤ c) (c1 : c ≤ 1) (hsc : l1 - l0 = s - c * 18446744073709551616) (hg : h1 - h0 - c = g) (w : World) :
    Calls Tryd.prog 23 #[.agg #[.bool n0, .int .u64 h0, .int .u64 l0], .agg #[.bool n1, .int .u64 h1, .int .u64 l1]] w fun e w' => e = .returned (.tuple #[.agg #[.bool (sgV n1 g s), .int .u64 g, .int .u64 s], .bool true]) ∧ Below w.heap.size w w' := by
  have hA1 : ∀ w, (callFunc 55 #[.int .u64 l1, .int .u64 l0, .int .u64 0]).run Tryd.prog w = .ok (.value (.tuple #[.int .u64 s, .int .u64 c])) w := fun w => sub64At l1 l0 0 s c lp1 lp0 (by omega) (by omega) s0 s1 (by omega) (by omega) (by omega) w
  have hA2 : ∀ w, (callFunc 55 #[.int .u64 h1, .int .u64 h0, .int .u64 c]).run Tryd.prog w = .ok (.value (.tuple #[.int .u64 g, .int .u64 0])) w := fun w => sub64At h1 h0 c g 0 hp1 hp0 c0 c1 (by omega) (by omega) (by omega) (by omega) (by omega) w
  have HO := Lib.hid ho
  clear ho
  go_enter Tryd.func23, Tryd.ntmps23
  go_wp2_with fail
  refine (implWideOk n0 h0 l0 hp0 lp0 _).mono ?_
  rintro e w1 ⟨rfl, hB1⟩
  rw [hk0]
  have hca0 : w1.cell? ⟨w.heap.size, 0, none⟩ = some (.bool n0) := by rw [hB1.cell (by simp <;> omega)]; go_simp
  have hfa0 : w1.frozen? ⟨w.heap.size, 0, none⟩ = false := by rw [hB1.frozen (by simp <;> omega)]; go_simp
  have hca1 : w1.cell? ⟨w.heap.size, 1, none⟩ = some (.int .u64 h0) := by rw [hB1.cell (by simp <;> omega)]; go_simp
  have hfa1 : w1.frozen? ⟨w.heap.size, 1, none⟩ = false := by rw [hB1.frozen (by simp <;> omega)]; go_simp
  have hca2 : w1.cell? ⟨w.heap.size, 2, none⟩ = some (.int .u64 l0) := by rw [hB1.cell (by simp <;> omega)]; go_simp
  have hfa2 : w1.frozen? ⟨w.heap.size, 2, none⟩ = false := by rw [hB1.frozen (by simp <;> omega)]; go_simp
  have hcb0 : w1.cell? ⟨w.heap.size + 1, 0, none⟩ = some (.bool n1) := by rw [hB1.cell (by simp <;> omega)]; go_simp
  have hfb0 : w1.frozen? ⟨w.heap.size + 1, 0, none⟩ = false := by rw [hB1.frozen (by simp <;> omega)]; go_simp
  have hcb1 : w1.cell? ⟨w.heap.size + 1, 1, none⟩ = some (.int .u64 h1) := by rw [hB1.cell (by simp <;> omega)]; go_simp
  have hfb1 : w1.frozen? ⟨w.heap.size + 1, 1, none⟩ = false := by rw [hB1.frozen (by simp <;> omega)]; go_simp
  have hcb2 : w1.cell? ⟨w.heap.size + 1, 2, none⟩ = some (.int .u64 l1) := by rw [hB1.cell (by simp <;> omega)]; go_simp
  have hfb2 : w1.frozen? ⟨w.heap.size + 1, 2, none⟩ = false := by rw [hB1.frozen (by simp <;> omega)]; go_simp
  have hcr0 : w1.cell? ⟨w.heap.size + 1 + 1, 0, none⟩ = some (.bool false) := by rw [hB1.cell (by simp <;> omega)]; go_simp
  have hfr0 : w1.frozen? ⟨w.heap.size + 1 + 1, 0, none⟩ = false := by rw [hB1.frozen (by simp <;> omega)]; go_simp
  have hcr1 : w1.cell? ⟨w.heap.size + 1 + 1, 1, none⟩ = some (.int .u64 0) := by rw [hB1.cell (by simp <;> omega)]; go_simp
  have hfr1 : w1.frozen? ⟨w.heap.size + 1 + 1, 1, none⟩ = false := by rw [hB1.frozen (by simp <;> omega)]; go_simp
  have hcr2 : w1.cell? ⟨w.heap.size + 1 + 1, 2, none⟩ = some (.int .u64 0) := by rw [hB1.cell (by simp <;> omega)]; go_simp
  have hfr2 : w1.frozen? ⟨w.heap.size + 1 + 1, 2, none⟩ = false := by rw [hB1.frozen (by simp <;> omega)]; go_simp
  have HB1 : Hid (Below w.heap.size w w1) := Lib.hid (((((Below.refl _ _).alloc (Nat.le_refl _) _).alloc (by simp) _).alloc (by simp <;> omega) _).trans (hB1.mono (by simp <;> omega)))
  have hs1 : w.heap.size + 1 + 1 + 1 ≤ w1.heap.size := by have := hB1.size; simpa using this
  clear hB1
  go_wp2_with fail
  refine (implWideOk n1 h1 l1 hp1 lp1 _).mono ?_
  rintro e w2 ⟨rfl, hB2⟩
  rw [hk1]
  replace hca0 : w2.cell? ⟨w.heap.size, 0, none⟩ = some (.bool n0) := (hB2.cell (by simp <;> omega)).trans hca0
  replace hfa0 : w2.frozen? ⟨w.heap.size, 0, none⟩ = false := (hB2.frozen (by simp <;> omega)).trans hfa0
  replace hca1 : w2.cell? ⟨w.heap.size, 1, none⟩ = some (.int .u64 h0) := (hB2.cell (by simp <;> omega)).trans hca1
  replace hfa1 : w2.frozen? ⟨w.heap.size, 1, none⟩ = false := (hB2.frozen (by simp <;> omega)).trans hfa1
  replace hca2 : w2.cell? ⟨w.heap.size, 2, none⟩ = some (.int .u64 l0) := (hB2.cell (by simp <;> omega)).trans hca2
  replace hfa2 : w2.frozen? ⟨w.heap.size, 2, none⟩ = false := (hB2.frozen (by simp <;> omega)).trans hfa2
  replace hcb0 : w2.cell? ⟨w.heap.size + 1, 0, none⟩ = some (.bool n1) := (hB2.cell (by simp <;> omega)).trans hcb0
  replace hfb0 : w2.frozen? ⟨w.heap.size + 1, 0, none⟩ = false := (hB2.frozen (by simp <;> omega)).trans hfb0
  replace hcb1 : w2.cell? ⟨w.heap.size + 1, 1, none⟩ = some (.int .u64 h1) := (hB2.cell (by simp <;> omega)).trans hcb1
  replace hfb1 : w2.frozen? ⟨w.heap.size + 1, 1, none⟩ = false := (hB2.frozen (by simp <;> omega)).trans hfb1
  replace hcb2 : w2.cell? ⟨w.heap.size + 1, 2, none⟩ = some (.int .u64 l1) := (hB2.cell (by simp <;> omega)).trans hcb2
  replace hfb2 : w2.frozen? ⟨w.heap.size + 1, 2, none⟩ = false := (hB2.frozen (by simp <;> omega)).trans hfb2
  replace hcr0 : w2.cell? ⟨w.heap.size + 1 + 1, 0, none⟩ = some (.bool false) := (hB2.cell (by simp <;> omega)).trans hcr0
  replace hfr0 : w2.frozen? ⟨w.heap.size + 1 + 1, 0, none⟩ = false := (hB2.frozen (by simp <;> omega)).trans hfr0
  replace hcr1 : w2.cell? ⟨w.heap.size + 1 + 1, 1, none⟩ = some (.int .u64 0) := (hB2.cell (by simp <;> omega)).trans hcr1
  replace hfr1 : w2.frozen? ⟨w.heap.size + 1 + 1, 1, none⟩ = false := (hB2.frozen (by simp <;> omega)).trans hfr1
  replace hcr2 : w2.cell? ⟨w.heap.size + 1 + 1, 2, none⟩ = some (.int .u64 0) := (hB2.cell (by simp <;> omega)).trans hcr2
  replace hfr2 : w2.frozen? ⟨w.heap.size + 1 + 1, 2, none⟩ = false := (hB2.frozen (by simp <;> omega)).trans hfr2
  have HB2 : Hid (Below w.heap.size w w2) := Lib.hid (HB1.out.trans (hB2.mono (by omega)))
  have hs2 := Nat.le_trans hs1 hB2.size
  clear hB2 HB1 hs1
  go_wp2_with fail
  refine (implOrder n0 h0 l0 n1 h1 l1 _).mono ?_
  rintro e w3 ⟨rfl, hB3⟩
  rw [HO.out]
  replace hca0 : w3.cell? ⟨w.heap.size, 0, none⟩ = some (.bool n0) := (hB3.cell (by simp <;> omega)).trans hca0
  replace hfa0 : w3.frozen? ⟨w.heap.size, 0, none⟩ = false := (hB3.frozen (by simp <;> omega)).trans hfa0
  replace hca1 : w3.cell? ⟨w.heap.size, 1, none⟩ = some (.int .u64 h0) := (hB3.cell (by simp <;> omega)).trans hca1
  replace hfa1 : w3.frozen? ⟨w.heap.size, 1, none⟩ = false := (hB3.frozen (by simp <;> omega)).trans hfa1
  replace hca2 : w3.cell? ⟨w.heap.size, 2, none⟩ = some (.int .u64 l0) := (hB3.cell (by simp <;> omega)).trans hca2
  replace hfa2 : w3.frozen? ⟨w.heap.size, 2, none⟩ = false := (hB3.frozen (by simp <;> omega)).trans hfa2
  replace hcb0 : w3.cell? ⟨w.heap.size + 1, 0, none⟩ = some (.bool n1) := (hB3.cell (by simp <;> omega)).trans hcb0
  replace hfb0 : w3.frozen? ⟨w.heap.size + 1, 0, none⟩ = false := (hB3.frozen (by simp <;> omega)).trans hfb0
  replace hcb1 : w3.cell? ⟨w.heap.size + 1, 1, none⟩ = some (.int .u64 h1) := (hB3.cell (by simp <;> omega)).trans hcb1
  replace hfb1 : w3.frozen? ⟨w.heap.size + 1, 1, none⟩ = false := (hB3.frozen (by simp <;> omega)).trans hfb1
  replace hcb2 : w3.cell? ⟨w.heap.size + 1, 2, none⟩ = some (.int .u64 l1) := (hB3.cell (by simp <;> omega)).trans hcb2
  replace hfb2 : w3.frozen? ⟨w.heap.size + 1, 2, none⟩ = false := (hB3.frozen (by simp <;> omega)).trans hfb2
  replace hcr0 : w3.cell? ⟨w.heap.size + 1 + 1, 0, none⟩ = some (.bool false) := (hB3.cell (by simp <;> omega)).trans hcr0
  replace hfr0 : w3.frozen? ⟨w.heap.size + 1 + 1, 0, none⟩ = false := (hB3.frozen (by simp <;> omega)).trans hfr0
  replace hcr1 : w3.cell? ⟨w.heap.size + 1 + 1, 1, none⟩ = some (.int .u64 0) := (hB3.cell (by simp <;> omega)).trans hcr1
  replace hfr1 : w3.frozen? ⟨w.heap.size + 1 + 1, 1, none⟩ = false := (hB3.frozen (by simp <;> omega)).trans hfr1
  replace hcr2 : w3.cell? ⟨w.heap.size + 1 + 1, 2, none⟩ = some (.int .u64 0) := (hB3.cell (by simp <;> omega)).trans hcr2
  replace hfr2 : w3.frozen? ⟨w.heap.size + 1 + 1, 2, none⟩ = false := (hB3.frozen (by simp <;> omega)).trans hfr2
  have HB3 : Hid (Below w.heap.size w w3) := Lib.hid (HB2.out.trans (hB3.mono (by omega)))
  have hs3 := Nat.le_trans hs2 hB3.size
  clear hB3 HB2 hs2
  go_wp2_with (first | simp only | simp only [hA2])
  refine (implWithSign n1 false g s _).mono ?_
  rintro e w4 ⟨rfl, hB4⟩
  clear hA1 hA2
  have hdr0 : w4.cell? ⟨w.heap.size + 1 + 1, 0, none⟩ = some (.bool false) := by rw [hB4.cell (by simp <;> omega)]; go_simp
  have hgr0 : w4.frozen? ⟨w.heap.size + 1 + 1, 0, none⟩ = false := by rw [hB4.frozen (by simp <;> omega)]; go_simp
  have hdr1 : w4.cell? ⟨w.heap.size + 1 + 1, 1, none⟩ = some (.int .u64 0) := by rw [hB4.cell (by simp <;> omega)]; go_simp
  have hgr1 : w4.frozen? ⟨w.heap.size + 1 + 1, 1, none⟩ = false := by rw [hB4.frozen (by simp <;> omega)]; go_simp
  have hdr2 : w4.cell? ⟨w.heap.size + 1 + 1, 2, none⟩ = some (.int .u64 0) := by rw [hB4.cell (by simp <;> omega)]; go_simp
  have hgr2 : w4.frozen? ⟨w.heap.size + 1 + 1, 2, none⟩ = false := by rw [hB4.frozen (by simp <;> omega)]; go_simp
  have HB : Hid (Below w.heap.size w w4) := Lib.hid ((((((((HB3.out.setCell (Nat.le_refl _) _).setCell (Nat.le_refl _) _).setCell (Nat.le_refl _) _).setCell (by simp) _).setCell (by simp) _).setCell (by simp) _)).trans (hB4.mono (by first | omega | (simp <;> omega))))
  clear hB4 HB3 hs3 hca0 hfa0 hca1 hfa1 hca2 hfa2 hcb0 hfb0 hcb1 hfb1 hcb2 hfb2 hcr0 hfr0 hcr1 hfr1 hcr2 hfr2
  go_wp2_with fail
  (try simp only [Exit.inBlock, Exit.then])
  refine bodyPost_ret (v := .tuple #[.agg #[.bool (sgV n1 g s), .int .u64 g, .int .u64 s], .bool true]) ?_ rfl ⟨rfl, ?_⟩
  · rw [results_cell_tmp rfl]
    go_simp
  · repeat' (first | assumption | exact Below.refl _ _ | exact HB.out | refine Below.alloc ?_ (by simp <;> omega) _ | refine Below.setCell ?_ (by simp <;> omega) _)
set_option maxRecDepth 100000 in
set_option maxHeartbeats 1000000 in
theorem implAdd_diff_ge (n0 : Bool) (h0 l0 : Int) (n1 : Bool) (h1 l1 : Int) (v s c g : Int) (hp0 : 0 ≤ h0) (hp1 : 0 ≤ h1) (lp0 : 0 ≤ l0) (lq0 : l0 < 18446744073709551616) (lp1 : 0 ≤ l1) (lq1 : l1 < 18446744073709551616) (hk0 : okV n0 h0 l0 = true) (hk1 : okV n1 h1 l1 = true) (hq0 : h0 < 9223372036854775808) (hq1 : h1 < 9223372036854775808) (hn : (n0 == n1) = false) (ho : ordV h0 l0 h1 l1 = v) (hv : ¬ v < 0) (s0 : 0 ≤ s) (s1 : s < 18446744073709551616) (g0 : 0 ≤ g) (c0 : 0 ≤ c) (c1 : c ≤ 1) (hsc : l0 - l1 = s - c * 18446744073709551616) (hg : h0 - h1 - c = g) (w : World) :
    Calls Tryd.prog 23 #[.agg #[.bool n0, .int .u64 h0, .int .u64 l0], .agg #[.bool n1, .int .u64 h1, .int .u64 l1]] w fun e w' => e = .returned (.tuple #[.agg #[.bool (sgV n0 g s), .int .u64 g, .int .u64 s], .bool true]) ∧ Below w.heap.size w w' := by
  have hA1 : ∀ w, (callFunc 55 #[.int .u64 l0, .int .u64 l1, .int .u64 0]).run Tryd.prog w = .ok (.value (.tuple #[.int .u64 s, .int .u64 c])) w := fun w => sub64At l0 l1 0 s c lp0 lp1 (by omega) (by omega) s0 s1 (by omega) (by omega) (by omega) w
  have hA2 : ∀ w, (callFunc 55 #[.int .u64 h0, .int .u64 h1, .int .u64 c]).run Tryd.prog w = .ok (.value (.tuple #[.int .u64 g, .int .u64 0])) w := fun w => sub64At h0 h1 c g 0 hp0 hp1 c0 c1 (by omega) (by omega) (by omega) (by omega) (by omega) w
  have HO := Lib.hid ho
  clear ho
  go_enter Tryd.func23, Tryd.ntmps23
  go_wp2_with fail
  refine (implWideOk n0 h0 l0 hp0 lp0 _).mono ?_
  rintro e w1 ⟨rfl, hB1⟩
  rw [hk0]
  have hca0 : w1.cell? ⟨w.heap.size, 0, none⟩ = some (.bool n0) := by rw [hB1.cell (by simp <;> omega)]; go_simp
  have hfa0 : w1.frozen? ⟨w.heap.size, 0, none⟩ = false := by rw [hB1.frozen (by simp <;> omega)]; go_simp
  have hca1 : w1.cell? ⟨w.heap.size, 1, none⟩ = some (.int .u64 h0) := by rw [hB1.cell (by simp <;> omega)]; go_simp
  have hfa1 : w1.frozen? ⟨w.heap.size, 1, none⟩ = false := by rw [hB1.frozen (by simp <;> omega)]; go_simp
  have hca2 : w1.cell? ⟨w.heap.size, 2, none⟩ = some (.int .u64 l0) := by rw [hB1.cell (by simp <;> omega)]; go_simp
  have hfa2 : w1.frozen? ⟨w.heap.size, 2, none⟩ = false := by rw [hB1.frozen (by simp <;> omega)]; go_simp
  have hcb0 : w1.cell? ⟨w.heap.size + 1, 0, none⟩ = some (.bool n1) := by rw [hB1.cell (by simp <;> omega)]; go_simp
  have hfb0 : w1.frozen? ⟨w.heap.size + 1, 0, none⟩ = false := by rw [hB1.frozen (by simp <;> omega)]; go_simp
  have hcb1 : w1.cell? ⟨w.heap.size + 1, 1, none⟩ = some (.int .u64 h1) := by rw [hB1.cell (by simp <;> omega)]; go_simp
  have hfb1 : w1.frozen? ⟨w.heap.size + 1, 1, none⟩ = false := by rw [hB1.frozen (by simp <;> omega)]; go_simp
  have hcb2 : w1.cell? ⟨w.heap.size + 1, 2, none⟩ = some (.int .u64 l1) := by rw [hB1.cell (by simp <;> omega)]; go_simp
  have hfb2 : w1.frozen? ⟨w.heap.size + 1, 2, none⟩ = false := by rw [hB1.frozen (by simp <;> omega)]; go_simp
  have hcr0 : w1.cell? ⟨w.heap.size + 1 + 1, 0, none⟩ = some (.bool false) := by rw [hB1.cell (by simp <;> omega)]; go_simp
  have hfr0 : w1.frozen? ⟨w.heap.size + 1 + 1, 0, none⟩ = false := by rw [hB1.frozen (by simp <;> omega)]; go_simp
  have hcr1 : w1.cell? ⟨w.heap.size + 1 + 1, 1, none⟩ = some (.int .u64 0) := by rw [hB1.cell (by simp <;> omega)]; go_simp
  have hfr1 : w1.frozen? ⟨w.heap.size + 1 + 1, 1, none⟩ = false := by rw [hB1.frozen (by simp <;> omega)]; go_simp
  have hcr2 : w1.cell? ⟨w.heap.size + 1 + 1, 2, none⟩ = some (.int .u64 0) := by rw [hB1.cell (by simp <;> omega)]; go_simp
  have hfr2 : w1.frozen? ⟨w.heap.size + 1 + 1, 2, none⟩ = false := by rw [hB1.frozen (by simp <;> omega)]; go_simp
  have HB1 : Hid (Below w.heap.size w w1) := Lib.hid (((((Below.refl _ _).alloc (Nat.le_refl _) _).alloc (by simp) _).alloc (by simp <;> omega) _).trans (hB1.mono (by simp <;> omega)))
  have hs1 : w.heap.size + 1 + 1 + 1 ≤ w1.heap.size := by have := hB1.size; simpa using this
  clear hB1
  go_wp2_with fail
  refine (implWideOk n1 h1 l1 hp1 lp1 _).mono ?_
  rintro e w2 ⟨rfl, hB2⟩
  rw [hk1]
  replace hca0 : w2.cell? ⟨w.heap.size, 0, none⟩ = some (.bool n0) := (hB2.cell (by simp <;> omega)).trans hca0
  replace hfa0 : w2.frozen? ⟨w.heap.size, 0, none⟩ = false := (hB2.frozen (by simp <;> omega)).trans hfa0
  replace hca1 : w2.cell? ⟨w.heap.size, 1, none⟩ = some (.int .u64 h0) := (hB2.cell (by simp <;> omega)).trans hca1
  replace hfa1 : w2.frozen? ⟨w.heap.size, 1, none⟩ = false := (hB2.frozen (by simp <;> omega)).trans hfa1
  replace hca2 : w2.cell? ⟨w.heap.size, 2, none⟩ = some (.int .u64 l0) := (hB2.cell (by simp <;> omega)).trans hca2
  replace hfa2 : w2.frozen? ⟨w.heap.size, 2, none⟩ = false := (hB2.frozen (by simp <;> omega)).trans hfa2
  replace hcb0 : w2.cell? ⟨w.heap.size + 1, 0, none⟩ = some (.bool n1) := (hB2.cell (by simp <;> omega)).trans hcb0
  replace hfb0 : w2.frozen? ⟨w.heap.size + 1, 0, none⟩ = false := (hB2.frozen (by simp <;> omega)).trans hfb0
  replace hcb1 : w2.cell? ⟨w.heap.size + 1, 1, none⟩ = some (.int .u64 h1) := (hB2.cell (by simp <;> omega)).trans hcb1
  replace hfb1 : w2.frozen? ⟨w.heap.size + 1, 1, none⟩ = false := (hB2.frozen (by simp <;> omega)).trans hfb1
  replace hcb2 : w2.cell? ⟨w.heap.size + 1, 2, none⟩ = some (.int .u64 l1) := (hB2.cell (by simp <;> omega)).trans hcb2
  replace hfb2 : w2.frozen? ⟨w.heap.size + 1, 2, none⟩ = false := (hB2.frozen (by simp <;> omega)).trans hfb2
  replace hcr0 : w2.cell? ⟨w.heap.size + 1 + 1, 0, none⟩ = some (.bool false) := (hB2.cell (by simp <;> omega)).trans hcr0
  replace hfr0 : w2.frozen? ⟨w.heap.size + 1 + 1, 0, none⟩ = false := (hB2.frozen (by simp <;> omega)).trans hfr0
  replace hcr1 : w2.cell? ⟨w.heap.size + 1 + 1, 1, none⟩ = some (.int .u64 0) := (hB2.cell (by simp <;> omega)).trans hcr1
  replace hfr1 : w2.frozen? ⟨w.heap.size + 1 + 1, 1, none⟩ = false := (hB2.frozen (by simp <;> omega)).trans hfr1
  replace hcr2 : w2.cell? ⟨w.heap.size + 1 + 1, 2, none⟩ = some (.int .u64 0) := (hB2.cell (by simp <;> omega)).trans hcr2
  replace hfr2 : w2.frozen? ⟨w.heap.size + 1 + 1, 2, none⟩ = false := (hB2.frozen (by simp <;> omega)).trans hfr2
  have HB2 : Hid (Below w.heap.size w w2) := Lib.hid (HB1.out.trans (hB2.mono (by omega)))
  have hs2 := Nat.le_trans hs1 hB2.size
  clear hB2 HB1 hs1
  go_wp2_with fail
  refine (implOrder n0 h0 l0 n1 h1 l1 _).mono ?_
  rintro e w3 ⟨rfl, hB3⟩
  rw [HO.out]
  replace hca0 : w3.cell? ⟨w.heap.size, 0, none⟩ = some (.bool n0) := (hB3.cell (by simp <;> omega)).trans hca0
  replace hfa0 : w3.frozen? ⟨w.heap.size, 0, none⟩ = false := (hB3.frozen (by simp <;> omega)).trans hfa0
  replace hca1 : w3.cell? ⟨w.heap.size, 1, none⟩ = some (.int .u64 h0) := (hB3.cell (by simp <;> omega)).trans hca1
  replace hfa1 : w3.frozen? ⟨w.heap.size, 1, none⟩ = false := (hB3.frozen (by simp <;> omega)).trans hfa1
  replace hca2 : w3.cell? ⟨w.heap.size, 2, none⟩ = some (.int .u64 l0) := (hB3.cell (by simp <;> omega)).trans hca2
  replace hfa2 : w3.frozen? ⟨w.heap.size, 2, none⟩ = false := (hB3.frozen (by simp <;> omega)).trans hfa2
  replace hcb0 : w3.cell? ⟨w.heap.size + 1, 0, none⟩ = some (.bool n1) := (hB3.cell (by simp <;> omega)).trans hcb0
  replace hfb0 : w3.frozen? ⟨w.heap.size + 1, 0, none⟩ = false := (hB3.frozen (by simp <;> omega)).trans hfb0
  replace hcb1 : w3.cell? ⟨w.heap.size + 1, 1, none⟩ = some (.int .u64 h1) := (hB3.cell (by simp <;> omega)).trans hcb1
  replace hfb1 : w3.frozen? ⟨w.heap.size + 1, 1, none⟩ = false := (hB3.frozen (by simp <;> omega)).trans hfb1
  replace hcb2 : w3.cell? ⟨w.heap.size + 1, 2, none⟩ = some (.int .u64 l1) := (hB3.cell (by simp <;> omega)).trans hcb2
  replace hfb2 : w3.frozen? ⟨w.heap.size + 1, 2, none⟩ = false := (hB3.frozen (by simp <;> omega)).trans hfb2
  replace hcr0 : w3.cell? ⟨w.heap.size + 1 + 1, 0, none⟩ = some (.bool false) := (hB3.cell (by simp <;> omega)).trans hcr0
  replace hfr0 : w3.frozen? ⟨w.heap.size + 1 + 1, 0, none⟩ = false := (hB3.frozen (by simp <;> omega)).trans hfr0
  replace hcr1 : w3.cell? ⟨w.heap.size + 1 + 1, 1, none⟩ = some (.int .u64 0) := (hB3.cell (by simp <;> omega)).trans hcr1
  replace hfr1 : w3.frozen? ⟨w.heap.size + 1 + 1, 1, none⟩ = false := (hB3.frozen (by simp <;> omega)).trans hfr1
  replace hcr2 : w3.cell? ⟨w.heap.size + 1 + 1, 2, none⟩ = some (.int .u64 0) := (hB3.cell (by simp <;> omega)).trans hcr2
  replace hfr2 : w3.frozen? ⟨w.heap.size + 1 + 1, 2, none⟩ = false := (hB3.frozen (by simp <;> omega)).trans hfr2
  have HB3 : Hid (Below w.heap.size w w3) := Lib.hid (HB2.out.trans (hB3.mono (by omega)))
  have hs3 := Nat.le_trans hs2 hB3.size
  clear hB3 HB2 hs2
  go_wp2_with (first | simp only | simp only [hA2])
  refine (implWithSign n0 false g s _).mono ?_
  rintro e w4 ⟨rfl, hB4⟩
  clear hA1 hA2
  have hdr0 : w4.cell? ⟨w.heap.size + 1 + 1, 0, none⟩ = some (.bool false) := by rw [hB4.cell (by simp <;> omega)]; go_simp
  have hgr0 : w4.frozen? ⟨w.heap.size + 1 + 1, 0, none⟩ = false := by rw [hB4.frozen (by simp <;> omega)]; go_simp
  have hdr1 : w4.cell? ⟨w.heap.size + 1 + 1, 1, none⟩ = some (.int .u64 0) := by rw [hB4.cell (by simp <;> omega)]; go_simp
  have hgr1 : w4.frozen? ⟨w.heap.size + 1 + 1, 1, none⟩ = false := by rw [hB4.frozen (by simp <;> omega)]; go_simp
  have hdr2 : w4.cell? ⟨w.heap.size + 1 + 1, 2, none⟩ = some (.int .u64 0) := by rw [hB4.cell (by simp <;> omega)]; go_simp
  have hgr2 : w4.frozen? ⟨w.heap.size + 1 + 1, 2, none⟩ = false := by rw [hB4.frozen (by simp <;> omega)]; go_simp
  have HB : Hid (Below w.heap.size w w4) := Lib.hid ((HB3.out).trans (hB4.mono (by first | omega | (simp <;> omega))))
  clear hB4 HB3 hs3 hca0 hfa0 hca1 hfa1 hca2 hfa2 hcb0 hfb0 hcb1 hfb1 hcb2 hfb2 hcr0 hfr0 hcr1 hfr1 hcr2 hfr2
  go_wp2_with fail
  (try simp only [Exit.inBlock, Exit.then])
  refine bodyPost_ret (v := .tuple #[.agg #[.bool (sgV n0 g s), .int .u64 g, .int .u64 s], .bool true]) ?_ rfl ⟨rfl, ?_⟩
  · rw [results_cell_tmp rfl]
    go_simp
  · repeat' (first | assumption | exact Below.refl _ _ | exact HB.out | refine Below.alloc ?_ (by simp <;> omega) _ | refine Below.setCell ?_ (by simp <;> omega) _)
theorem okE_fit {n : Bool} {h l z : Int} (h0 : 0 ≤ h) (l0 : 0 ≤ l) (l1 : l < 18446744073709551616) (hn : n = true → 0 < h ∨ 0 < l) (hz : z = sv n (h * 18446744073709551616 + l)) : okE n h l = fitW z := by
  unfold okE
  by_cases hk : okV n h l = true
  · rw [if_pos hk, fitW_yes h0 (okV_yes hk).1 l0 l1 hn hz]
  · rw [if_neg hk]
    refine fitW_no ?_
    have hh : ¬ h < 9223372036854775808 := fun k => hk (okV_mk k hn)
    unfold RoomW
    rw [hz, sv_abs n (by omega)]
    omega
theorem implAdd_ok (n0 : Bool) (h0 l0 : Int) (n1 : Bool) (h1 l1 : Int) (hp0 : 0 ≤ h0) (hp1 : 0 ≤ h1) (lp0 : 0 ≤ l0) (lq0 : l0 < 18446744073709551616) (lp1 : 0 ≤ l1) (lq1 : l1 < 18446744073709551616) (hk0 : okV n0 h0 l0 = true) (hk1 : okV n1 h1 l1 = true) (w : World) :
    Calls Tryd.prog 23 #[.agg #[.bool n0, .int .u64 h0, .int .u64 l0], .agg #[.bool n1, .int .u64 h1, .int .u64 l1]] w fun e w' => e = fitW (sv n0 (h0 * 18446744073709551616 + l0) + sv n1 (h1 * 18446744073709551616 + l1)) ∧ Below w.heap.size w w' := by
  have q0 := okV_yes hk0
  have q1 := okV_yes hk1
  by_cases hn : n0 = n1
  · subst hn
    obtain ⟨c, s, c0, c1, s0, s1, hsc⟩ : ∃ c s : Int, 0 ≤ c ∧ c ≤ 1 ∧ 0 ≤ s ∧ s < 18446744073709551616 ∧ l0 + l1 = c * 18446744073709551616 + s := ⟨(l0 + l1) / 18446744073709551616, (l0 + l1) % 18446744073709551616, by omega, by omega, by omega, by omega, by omega⟩
    have e : okE n0 (h0 + h1 + c) s = fitW (sv n0 (h0 * 18446744073709551616 + l0) + sv n0 (h1 * 18446744073709551616 + l1)) :=
      okE_fit (by omega) s0 s1 (fun k => by have := q0.2 k; omega) (by cases n0 <;> simp [sv] <;> omega)
    rw [← e]
    by_cases hk2 : okV n0 (h0 + h1 + c) s = true
    · rw [okE, if_pos hk2]
      exact implAdd_same_ok n0 h0 l0 h1 l1 s c hp0 hp1 lp0 lq0 lp1 lq1 hk0 hk1 q0.1 q1.1 s0 s1 c0 c1 hsc hk2 w
    · rw [okE, if_neg hk2]
      exact implAdd_same_no n0 h0 l0 h1 l1 s c hp0 hp1 lp0 lq0 lp1 lq1 hk0 hk1 q0.1 q1.1 s0 s1 c0 c1 hsc hk2 w
  · have hn2 : (n0 == n1) = false := by simpa using hn
    have key : ∀ (nx ny : Bool) (hx lx hy ly g s c : Int), nx ≠ ny → 0 ≤ g → 0 ≤ s → s < 18446744073709551616 → g < 9223372036854775808 → lx - ly = s - c * 18446744073709551616 → hx - hy - c = g →
        Ending.returned (.tuple #[.agg #[.bool (sgV nx g s), .int .u64 g, .int .u64 s], .bool true]) = fitW (sv nx (hx * 18446744073709551616 + lx) + sv ny (hy * 18446744073709551616 + ly)) := by
      intro nx ny hx lx hy ly g s c hne g0 s0 s1 g1 e1 e2
      have hv : sv nx (hx * 18446744073709551616 + lx) + sv ny (hy * 18446744073709551616 + ly) = sv (sgV nx g s) (g * 18446744073709551616 + s) := by
        rw [sv_sgV g0 s0]
        cases nx <;> cases ny
        · exact absurd rfl hne
        · simp [sv]; omega
        · simp [sv]; omega
        · exact absurd rfl hne
      exact fitW_yes g0 g1 s0 s1 (sgV_pos g0 s0) hv
    by_cases ho : ordV h0 l0 h1 l1 < 0
    · have hlt : h0 < h1 ∨ h0 = h1 ∧ l0 < l1 := by
        unfold ordV at ho
        split at ho
        · assumption
        · split at ho <;> omega
      obtain ⟨c, s, c0, c1, s0, s1, hsc⟩ : ∃ c s : Int, 0 ≤ c ∧ c ≤ 1 ∧ 0 ≤ s ∧ s < 18446744073709551616 ∧ l1 - l0 = s - c * 18446744073709551616 := by
        by_cases hl : l0 ≤ l1
        · exact ⟨0, l1 - l0, by omega, by omega, by omega, by omega, by omega⟩
        · exact ⟨1, l1 - l0 + 18446744073709551616, by omega, by omega, by omega, by omega, by omega⟩
      rw [Int.add_comm, ← key n1 n0 h1 l1 h0 l0 (h1 - h0 - c) s c (fun k => hn k.symm) (by omega) s0 s1 (by omega) hsc rfl]
      exact implAdd_diff_lt n0 h0 l0 n1 h1 l1 _ s c (h1 - h0 - c) hp0 hp1 lp0 lq0 lp1 lq1 hk0 hk1 q0.1 q1.1 hn2 rfl ho s0 s1 (by omega) c0 c1 hsc rfl w
    · have hge : ¬ (h0 < h1 ∨ h0 = h1 ∧ l0 < l1) := by
        intro k
        unfold ordV at ho
        rw [if_pos k] at ho
        omega
      obtain ⟨c, s, c0, c1, s0, s1, hsc⟩ : ∃ c s : Int, 0 ≤ c ∧ c ≤ 1 ∧ 0 ≤ s ∧ s < 18446744073709551616 ∧ l0 - l1 = s - c * 18446744073709551616 := by
        by_cases hl : l1 ≤ l0
        · exact ⟨0, l0 - l1, by omega, by omega, by omega, by omega, by omega⟩
        · exact ⟨1, l0 - l1 + 18446744073709551616, by omega, by omega, by omega, by omega, by omega⟩
      rw [← key n0 n1 h0 l0 h1 l1 (h0 - h1 - c) s c hn (by omega) s0 s1 (by omega) hsc rfl]
      exact implAdd_diff_ge n0 h0 l0 n1 h1 l1 _ s c (h0 - h1 - c) hp0 hp1 lp0 lq0 lp1 lq1 hk0 hk1 q0.1 q1.1 hn2 rfl ho s0 s1 (by omega) c0 c1 hsc rfl w
theorem implAddWide (n0 : Bool) (h0 l0 : Int) (n1 : Bool) (h1 l1 : Int) (hp0 : 0 ≤ h0) (hp1 : 0 ≤ h1) (lp0 : 0 ≤ l0) (lq0 : l0 < 18446744073709551616) (lp1 : 0 ≤ l1) (lq1 : l1 < 18446744073709551616) (w : World) :
    Calls Tryd.prog 23 #[.agg #[.bool n0, .int .u64 h0, .int .u64 l0], .agg #[.bool n1, .int .u64 h1, .int .u64 l1]] w fun e w' => e = addE n0 h0 l0 n1 h1 l1 ∧ Below w.heap.size w w' := by
  by_cases hk0 : okV n0 h0 l0 = true
  · by_cases hk1 : okV n1 h1 l1 = true
    · rw [addE, if_pos ⟨hk0, hk1⟩]
      exact implAdd_ok n0 h0 l0 n1 h1 l1 hp0 hp1 lp0 lq0 lp1 lq1 hk0 hk1 w
    · rw [addE, if_neg (fun k => hk1 k.2)]
      exact implAdd_no1 n0 h0 l0 n1 h1 l1 hp0 hp1 lp0 lq0 lp1 lq1 hk0 (by simpa using hk1) w
  · rw [addE, if_neg (fun k => hk0 k.1)]
    exact implAdd_no0 n0 h0 l0 n1 h1 l1 hp0 hp1 lp0 lq0 lp1 lq1 (by simpa using hk0) w
end Go.Proofs.YtapdocfifgnjgaaDoor
