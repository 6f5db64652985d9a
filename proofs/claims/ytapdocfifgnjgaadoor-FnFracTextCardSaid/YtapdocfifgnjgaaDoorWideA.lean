
/-
  Wide numbers of the reference: the sum.
-/
import Derived.Test.YtapdocfifgnjgaaDoorWideS
namespace Go.Proofs.YtapdocfifgnjgaaDoor
open Go.RowKit

def sv (n : Bool) (m : Int) : Int := if n = true then -m else m
/-- The parts of a number that has room. -/
def wideC (z : Int) : Value := .agg #[.bool (decide (z < 0)), .int .u64 ((z.natAbs : Int) / 18446744073709551616), .int .u64 ((z.natAbs : Int) % 18446744073709551616)]
/-- z has room in 127 bits and a sign. -/
def RoomW (z : Int) : Prop := (z.natAbs : Int) < 170141183460469231731687303715884105728
open Classical in
noncomputable def fitW (z : Int) : Ending := if RoomW z then .returned (.tuple #[wideC z, .bool true]) else .returned (.tuple #[.agg #[.bool false, .int .u64 0, .int .u64 0], .bool false])
theorem wideC_eq {n : Bool} {h l z : Int} (h0 : 0 ≤ h) (l0 : 0 ≤ l) (l1 : l < 18446744073709551616) (hn : n = true → 0 < h ∨ 0 < l) (hz : z = sv n (h * 18446744073709551616 + l)) :
    Value.agg #[.bool n, .int .u64 h, .int .u64 l] = wideC z := by
  have ha : (z.natAbs : Int) = h * 18446744073709551616 + l := by cases n <;> simp [sv] at hz <;> omega
  have hs : decide (z < 0) = n := by
    cases n
    · simp [sv] at hz; simp; omega
    · have := hn rfl; simp [sv] at hz; simp; omega
  unfold wideC
  rw [hs, ha, show (h * 18446744073709551616 + l) / 18446744073709551616 = h by omega, show (h * 18446744073709551616 + l) % 18446744073709551616 = l by omega]
theorem fitW_yes {n : Bool} {h l z : Int} (h0 : 0 ≤ h) (h1 : h < 9223372036854775808) (l0 : 0 ≤ l) (l1 : l < 18446744073709551616) (hn : n = true → 0 < h ∨ 0 < l) (hz : z = sv n (h * 18446744073709551616 + l)) :
    Ending.returned (.tuple #[.agg #[.bool n, .int .u64 h, .int .u64 l], .bool true]) = fitW z := by
  have ha : (z.natAbs : Int) = h * 18446744073709551616 + l := by cases n <;> simp [sv] at hz <;> omega
  have hr : RoomW z := by unfold RoomW; omega
  rw [wideC_eq h0 l0 l1 hn hz, fitW, if_pos hr]
theorem fitW_no {z : Int} (h : ¬ RoomW z) : Ending.returned (.tuple #[.agg #[.bool false, .int .u64 0, .int .u64 0], .bool false]) = fitW z := by rw [fitW, if_neg h]
theorem okV_yes {n : Bool} {h l : Int} (k : okV n h l = true) : h < 9223372036854775808 ∧ (n = true → 0 < h ∨ 0 < l) := by
  unfold okV at k
  cases n <;> simp at k <;> simp <;> omega
theorem okV_mk {n : Bool} {h l : Int} (h1 : h < 9223372036854775808) (hn : n = true → 0 < h ∨ 0 < l) : okV n h l = true := by
  unfold okV
  cases n <;> simp at hn ⊢ <;> omega
theorem okV_big {n : Bool} {h l : Int} (h1 : ¬ h < 9223372036854775808) : okV n h l = false := by
  unfold okV
  simp only [decide_eq_false h1, Bool.false_and]
/-- What a sum ends in. -/
noncomputable def addE (n : Bool) (h l : Int) (m : Bool) (k j : Int) : Ending :=
  if okV n h l = true ∧ okV m k j = true then fitW (sv n (h * 18446744073709551616 + l) + sv m (k * 18446744073709551616 + j)) else .returned (.tuple #[.agg #[.bool false, .int .u64 0, .int .u64 0], .bool false])

set_option maxRecDepth 100000 in
set_option maxHeartbeats 1000000 in
theorem specAdd_no0 (n0 : Bool) (h0 l0 : Int) (n1 : Bool) (h1 l1 : Int) (hk0 : okV n0 h0 l0 = false) (w : World) :
    Calls Tryd.prog 26 #[.agg #[.bool n0, .int .u64 h0, .int .u64 l0], .agg #[.bool n1, .int .u64 h1, .int .u64 l1]] w fun e w' => e = addE n0 h0 l0 n1 h1 l1 ∧ Below w.heap.size w w' := by
  go_enter Tryd.func26, Tryd.ntmps26
  go_wp2_with fail
  refine (specWideOk n0 h0 l0 _).mono ?_
  rintro e w1 ⟨rfl, hB⟩
  rw [hk0]
  have hca0 : w1.cell? ⟨w.heap.size, 0, none⟩ = some (.bool n0) := by rw [hB.cell (by simp <;> omega)]; go_simp
  have hfa0 : w1.frozen? ⟨w.heap.size, 0, none⟩ = false := by rw [hB.frozen (by simp <;> omega)]; go_simp
  have hca1 : w1.cell? ⟨w.heap.size, 1, none⟩ = some (.int .u64 h0) := by rw [hB.cell (by simp <;> omega)]; go_simp
  have hfa1 : w1.frozen? ⟨w.heap.size, 1, none⟩ = false := by rw [hB.frozen (by simp <;> omega)]; go_simp
  have hca2 : w1.cell? ⟨w.heap.size, 2, none⟩ = some (.int .u64 l0) := by rw [hB.cell (by simp <;> omega)]; go_simp
  have hfa2 : w1.frozen? ⟨w.heap.size, 2, none⟩ = false := by rw [hB.frozen (by simp <;> omega)]; go_simp
  have hcb0 : w1.cell? ⟨w.heap.size + 1, 0, none⟩ = some (.bool n1) := by rw [hB.cell (by simp <;> omega)]; go_simp
  have hfb0 : w1.frozen? ⟨w.heap.size + 1, 0, none⟩ = false := by rw [hB.frozen (by simp <;> omega)]; go_simp
  have hcb1 : w1.cell? ⟨w.heap.size + 1, 1, none⟩ = some (.int .u64 h1) := by rw [hB.cell (by simp <;> omega)]; go_simp
  have hfb1 : w1.frozen? ⟨w.heap.size + 1, 1, none⟩ = false := by rw [hB.frozen (by simp <;> omega)]; go_simp
  have hcb2 : w1.cell? ⟨w.heap.size + 1, 2, none⟩ = some (.int .u64 l1) := by rw [hB.cell (by simp <;> omega)]; go_simp
  have hfb2 : w1.frozen? ⟨w.heap.size + 1, 2, none⟩ = false := by rw [hB.frozen (by simp <;> omega)]; go_simp
  have hcr0 : w1.cell? ⟨w.heap.size + 1 + 1, 0, none⟩ = some (.bool false) := by rw [hB.cell (by simp <;> omega)]; go_simp
  have hfr0 : w1.frozen? ⟨w.heap.size + 1 + 1, 0, none⟩ = false := by rw [hB.frozen (by simp <;> omega)]; go_simp
  have hcr1 : w1.cell? ⟨w.heap.size + 1 + 1, 1, none⟩ = some (.int .u64 0) := by rw [hB.cell (by simp <;> omega)]; go_simp
  have hfr1 : w1.frozen? ⟨w.heap.size + 1 + 1, 1, none⟩ = false := by rw [hB.frozen (by simp <;> omega)]; go_simp
  have hcr2 : w1.cell? ⟨w.heap.size + 1 + 1, 2, none⟩ = some (.int .u64 0) := by rw [hB.cell (by simp <;> omega)]; go_simp
  have hfr2 : w1.frozen? ⟨w.heap.size + 1 + 1, 2, none⟩ = false := by rw [hB.frozen (by simp <;> omega)]; go_simp
  have HB : Hid (Below w.heap.size w w1) := ((((Below.refl _ _).alloc (Nat.le_refl _) _).alloc (by simp) _).alloc (by simp <;> omega) _).trans (hB.mono (by simp <;> omega))
  have hs : w.heap.size + 1 + 1 + 1 ≤ w1.heap.size := by have := hB.size; simpa using this
  clear hB
  go_wp2_with fail
  (try simp only [Exit.inBlock, Exit.then])
  refine bodyPost_ret (v := .tuple #[.agg #[.bool false, .int .u64 0, .int .u64 0], .bool false]) ?_ rfl ⟨(if_neg (by simp [hk0])).symm, ?_⟩
  · rw [results_cell_tmp rfl]
    go_simp
  · repeat' (first | assumption | exact Below.refl _ _ | exact HB.out | refine Below.alloc ?_ (by simp <;> omega) _ | refine Below.setCell ?_ (by simp <;> omega) _)
set_option maxRecDepth 100000 in
set_option maxHeartbeats 1000000 in
theorem specAdd_no1 (n0 : Bool) (h0 l0 : Int) (n1 : Bool) (h1 l1 : Int) (hk0 : okV n0 h0 l0 = true) (hk1 : okV n1 h1 l1 = false) (w : World) :
    Calls Tryd.prog 26 #[.agg #[.bool n0, .int .u64 h0, .int .u64 l0], .agg #[.bool n1, .int .u64 h1, .int .u64 l1]] w fun e w' => e = addE n0 h0 l0 n1 h1 l1 ∧ Below w.heap.size w w' := by
  go_enter Tryd.func26, Tryd.ntmps26
  go_wp2_with fail
  refine (specWideOk n0 h0 l0 _).mono ?_
  rintro e w1 ⟨rfl, hB⟩
  rw [hk0]
  have hca0 : w1.cell? ⟨w.heap.size, 0, none⟩ = some (.bool n0) := by rw [hB.cell (by simp <;> omega)]; go_simp
  have hfa0 : w1.frozen? ⟨w.heap.size, 0, none⟩ = false := by rw [hB.frozen (by simp <;> omega)]; go_simp
  have hca1 : w1.cell? ⟨w.heap.size, 1, none⟩ = some (.int .u64 h0) := by rw [hB.cell (by simp <;> omega)]; go_simp
  have hfa1 : w1.frozen? ⟨w.heap.size, 1, none⟩ = false := by rw [hB.frozen (by simp <;> omega)]; go_simp
  have hca2 : w1.cell? ⟨w.heap.size, 2, none⟩ = some (.int .u64 l0) := by rw [hB.cell (by simp <;> omega)]; go_simp
  have hfa2 : w1.frozen? ⟨w.heap.size, 2, none⟩ = false := by rw [hB.frozen (by simp <;> omega)]; go_simp
  have hcb0 : w1.cell? ⟨w.heap.size + 1, 0, none⟩ = some (.bool n1) := by rw [hB.cell (by simp <;> omega)]; go_simp
  have hfb0 : w1.frozen? ⟨w.heap.size + 1, 0, none⟩ = false := by rw [hB.frozen (by simp <;> omega)]; go_simp
  have hcb1 : w1.cell? ⟨w.heap.size + 1, 1, none⟩ = some (.int .u64 h1) := by rw [hB.cell (by simp <;> omega)]; go_simp
  have hfb1 : w1.frozen? ⟨w.heap.size + 1, 1, none⟩ = false := by rw [hB.frozen (by simp <;> omega)]; go_simp
  have hcb2 : w1.cell? ⟨w.heap.size + 1, 2, none⟩ = some (.int .u64 l1) := by rw [hB.cell (by simp <;> omega)]; go_simp
  have hfb2 : w1.frozen? ⟨w.heap.size + 1, 2, none⟩ = false := by rw [hB.frozen (by simp <;> omega)]; go_simp
  have hcr0 : w1.cell? ⟨w.heap.size + 1 + 1, 0, none⟩ = some (.bool false) := by rw [hB.cell (by simp <;> omega)]; go_simp
  have hfr0 : w1.frozen? ⟨w.heap.size + 1 + 1, 0, none⟩ = false := by rw [hB.frozen (by simp <;> omega)]; go_simp
  have hcr1 : w1.cell? ⟨w.heap.size + 1 + 1, 1, none⟩ = some (.int .u64 0) := by rw [hB.cell (by simp <;> omega)]; go_simp
  have hfr1 : w1.frozen? ⟨w.heap.size + 1 + 1, 1, none⟩ = false := by rw [hB.frozen (by simp <;> omega)]; go_simp
  have hcr2 : w1.cell? ⟨w.heap.size + 1 + 1, 2, none⟩ = some (.int .u64 0) := by rw [hB.cell (by simp <;> omega)]; go_simp
  have hfr2 : w1.frozen? ⟨w.heap.size + 1 + 1, 2, none⟩ = false := by rw [hB.frozen (by simp <;> omega)]; go_simp
  have HB : Hid (Below w.heap.size w w1) := ((((Below.refl _ _).alloc (Nat.le_refl _) _).alloc (by simp) _).alloc (by simp <;> omega) _).trans (hB.mono (by simp <;> omega))
  have hs : w.heap.size + 1 + 1 + 1 ≤ w1.heap.size := by have := hB.size; simpa using this
  clear hB
  go_wp2_with fail
  refine (specWideOk n1 h1 l1 _).mono ?_
  rintro e w2 ⟨rfl, hB2⟩
  rw [hk1]
  replace hca0 : w2.cell? ⟨w.heap.size, 0, none⟩ = some (.bool n0) := (hB2.cell (by simp <;> omega)).trans hca0
  replace hfa0 : w2.frozen? ⟨w.heap.size, 0, none⟩ = false := (hB2.frozen (by simp <;> omega)).trans hfa0
  replace hca1 : w2.cell? ⟨w.heap.size, 1, none⟩ = some (.int .u64 h0) := (hB2.cell (by simp <;> omega)).trans hca1
  replace hfa1 : w2.frozen? ⟨w.heap.size, 1, none⟩ = false := (hB2.frozen (by simp <;> omega)).trans hfa1
  replace hca2 : w2.cell? ⟨w.heap.size, 2, none⟩ = some (.int .u64 l0) := (hB2.cell (by simp <;> omega)).trans hca2
  replace hfa2 : w2.frozen? ⟨w.heap.size, 2, none⟩ = false := (hB2.frozen (by simp <;> omega)).trans hfa2
  replace hcb0 : w2.cell? ⟨w.heap.size + 1, 0, none⟩ = some (.bool n1) := (hB2.cell (by simp <;> omega)).trans hcb0
  replace hfb0 : w2.frozen? ⟨w.heap.size + 1, 0, none⟩ = false := (hB2.frozen (by simp <;> omega)).trans hfb0
  replace hcb1 : w2.cell? ⟨w.heap.size + 1, 1, none⟩ = some (.int .u64 h1) := (hB2.cell (by simp <;> omega)).trans hcb1
  replace hfb1 : w2.frozen? ⟨w.heap.size + 1, 1, none⟩ = false := (hB2.frozen (by simp <;> omega)).trans hfb1
  replace hcb2 : w2.cell? ⟨w.heap.size + 1, 2, none⟩ = some (.int .u64 l1) := (hB2.cell (by simp <;> omega)).trans hcb2
  replace hfb2 : w2.frozen? ⟨w.heap.size + 1, 2, none⟩ = false := (hB2.frozen (by simp <;> omega)).trans hfb2
  replace hcr0 : w2.cell? ⟨w.heap.size + 1 + 1, 0, none⟩ = some (.bool false) := (hB2.cell (by simp <;> omega)).trans hcr0
  replace hfr0 : w2.frozen? ⟨w.heap.size + 1 + 1, 0, none⟩ = false := (hB2.frozen (by simp <;> omega)).trans hfr0
  replace hcr1 : w2.cell? ⟨w.heap.size + 1 + 1, 1, none⟩ = some (.int .u64 0) := (hB2.cell (by simp <;> omega)).trans hcr1
  replace hfr1 : w2.frozen? ⟨w.heap.size + 1 + 1, 1, none⟩ = false := (hB2.frozen (by simp <;> omega)).trans hfr1
  replace hcr2 : w2.cell? ⟨w.heap.size + 1 + 1, 2, none⟩ = some (.int .u64 0) := (hB2.cell (by simp <;> omega)).trans hcr2
  replace hfr2 : w2.frozen? ⟨w.heap.size + 1 + 1, 2, none⟩ = false := (hB2.frozen (by simp <;> omega)).trans hfr2
  replace HB : Hid (Below w.heap.size w w2) := HB.out.trans (hB2.mono (by omega))
  replace hs : w.heap.size + 1 + 1 + 1 ≤ w2.heap.size := Nat.le_trans hs hB2.size
  clear hB2
  have hs0 : w.heap.size < w2.heap.size := by omega
  have hs1 : w.heap.size + 1 < w2.heap.size := by omega
  have hs2 : w.heap.size + 1 + 1 < w2.heap.size := by omega
  go_wp2_with fail
  (try simp only [Exit.inBlock, Exit.then])
  refine bodyPost_ret (v := .tuple #[.agg #[.bool false, .int .u64 0, .int .u64 0], .bool false]) ?_ rfl ⟨(if_neg (by simp [hk1])).symm, ?_⟩
  · rw [results_cell_tmp rfl]
    go_simp
  · repeat' (first | assumption | exact Below.refl _ _ | exact HB.out | refine Below.alloc ?_ (by simp <;> omega) _ | refine Below.setCell ?_ (by simp <;> omega) _)
set_option maxRecDepth 100000 in
set_option maxHeartbeats 1000000 in
theorem specAdd_same_nc_ok (n0 : Bool) (h0 l0 : Int) (h1 l1 : Int) (hp0 : 0 ≤ h0) (hp1 : 0 ≤ h1) (lp0 : 0 ≤ l0) (lq0 : l0 < 18446744073709551616) (lp1 : 0 ≤ l1) (lq1 : l1 < 18446744073709551616) (hk0 : okV n0 h0 l0 = true) (hk1 : okV n0 h1 l1 = true) (hq0 : h0 < 9223372036854775808) (hq1 : h1 < 9223372036854775808) (hcar : l0 + l1 < 18446744073709551616) (hk2 : okV n0 (h0 + h1) (l0 + l1) = true) (fin : Ending.returned (.tuple #[.agg #[.bool n0, .int .u64 (h0 + h1), .int .u64 (l0 + l1)], .bool true]) = addE n0 h0 l0 n0 h1 l1) (w : World) :
    Calls Tryd.prog 26 #[.agg #[.bool n0, .int .u64 h0, .int .u64 l0], .agg #[.bool n0, .int .u64 h1, .int .u64 l1]] w fun e w' => e = addE n0 h0 l0 n0 h1 l1 ∧ Below w.heap.size w w' := by
  go_enter Tryd.func26, Tryd.ntmps26
  go_wp2_with fail
  refine (specWideOk n0 h0 l0 _).mono ?_
  rintro e w1 ⟨rfl, hB⟩
  rw [hk0]
  have hca0 : w1.cell? ⟨w.heap.size, 0, none⟩ = some (.bool n0) := by rw [hB.cell (by simp <;> omega)]; go_simp
  have hfa0 : w1.frozen? ⟨w.heap.size, 0, none⟩ = false := by rw [hB.frozen (by simp <;> omega)]; go_simp
  have hca1 : w1.cell? ⟨w.heap.size, 1, none⟩ = some (.int .u64 h0) := by rw [hB.cell (by simp <;> omega)]; go_simp
  have hfa1 : w1.frozen? ⟨w.heap.size, 1, none⟩ = false := by rw [hB.frozen (by simp <;> omega)]; go_simp
  have hca2 : w1.cell? ⟨w.heap.size, 2, none⟩ = some (.int .u64 l0) := by rw [hB.cell (by simp <;> omega)]; go_simp
  have hfa2 : w1.frozen? ⟨w.heap.size, 2, none⟩ = false := by rw [hB.frozen (by simp <;> omega)]; go_simp
  have hcb0 : w1.cell? ⟨w.heap.size + 1, 0, none⟩ = some (.bool n0) := by rw [hB.cell (by simp <;> omega)]; go_simp
  have hfb0 : w1.frozen? ⟨w.heap.size + 1, 0, none⟩ = false := by rw [hB.frozen (by simp <;> omega)]; go_simp
  have hcb1 : w1.cell? ⟨w.heap.size + 1, 1, none⟩ = some (.int .u64 h1) := by rw [hB.cell (by simp <;> omega)]; go_simp
  have hfb1 : w1.frozen? ⟨w.heap.size + 1, 1, none⟩ = false := by rw [hB.frozen (by simp <;> omega)]; go_simp
  have hcb2 : w1.cell? ⟨w.heap.size + 1, 2, none⟩ = some (.int .u64 l1) := by rw [hB.cell (by simp <;> omega)]; go_simp
  have hfb2 : w1.frozen? ⟨w.heap.size + 1, 2, none⟩ = false := by rw [hB.frozen (by simp <;> omega)]; go_simp
  have hcr0 : w1.cell? ⟨w.heap.size + 1 + 1, 0, none⟩ = some (.bool false) := by rw [hB.cell (by simp <;> omega)]; go_simp
  have hfr0 : w1.frozen? ⟨w.heap.size + 1 + 1, 0, none⟩ = false := by rw [hB.frozen (by simp <;> omega)]; go_simp
  have hcr1 : w1.cell? ⟨w.heap.size + 1 + 1, 1, none⟩ = some (.int .u64 0) := by rw [hB.cell (by simp <;> omega)]; go_simp
  have hfr1 : w1.frozen? ⟨w.heap.size + 1 + 1, 1, none⟩ = false := by rw [hB.frozen (by simp <;> omega)]; go_simp
  have hcr2 : w1.cell? ⟨w.heap.size + 1 + 1, 2, none⟩ = some (.int .u64 0) := by rw [hB.cell (by simp <;> omega)]; go_simp
  have hfr2 : w1.frozen? ⟨w.heap.size + 1 + 1, 2, none⟩ = false := by rw [hB.frozen (by simp <;> omega)]; go_simp
  have HB : Hid (Below w.heap.size w w1) := ((((Below.refl _ _).alloc (Nat.le_refl _) _).alloc (by simp) _).alloc (by simp <;> omega) _).trans (hB.mono (by simp <;> omega))
  have hs : w.heap.size + 1 + 1 + 1 ≤ w1.heap.size := by have := hB.size; simpa using this
  clear hB
  go_wp2_with fail
  refine (specWideOk n0 h1 l1 _).mono ?_
  rintro e w2 ⟨rfl, hB2⟩
  rw [hk1]
  replace hca0 : w2.cell? ⟨w.heap.size, 0, none⟩ = some (.bool n0) := (hB2.cell (by simp <;> omega)).trans hca0
  replace hfa0 : w2.frozen? ⟨w.heap.size, 0, none⟩ = false := (hB2.frozen (by simp <;> omega)).trans hfa0
  replace hca1 : w2.cell? ⟨w.heap.size, 1, none⟩ = some (.int .u64 h0) := (hB2.cell (by simp <;> omega)).trans hca1
  replace hfa1 : w2.frozen? ⟨w.heap.size, 1, none⟩ = false := (hB2.frozen (by simp <;> omega)).trans hfa1
  replace hca2 : w2.cell? ⟨w.heap.size, 2, none⟩ = some (.int .u64 l0) := (hB2.cell (by simp <;> omega)).trans hca2
  replace hfa2 : w2.frozen? ⟨w.heap.size, 2, none⟩ = false := (hB2.frozen (by simp <;> omega)).trans hfa2
  replace hcb0 : w2.cell? ⟨w.heap.size + 1, 0, none⟩ = some (.bool n0) := (hB2.cell (by simp <;> omega)).trans hcb0
  replace hfb0 : w2.frozen? ⟨w.heap.size + 1, 0, none⟩ = false := (hB2.frozen (by simp <;> omega)).trans hfb0
  replace hcb1 : w2.cell? ⟨w.heap.size + 1, 1, none⟩ = some (.int .u64 h1) := (hB2.cell (by simp <;> omega)).trans hcb1
  replace hfb1 : w2.frozen? ⟨w.heap.size + 1, 1, none⟩ = false := (hB2.frozen (by simp <;> omega)).trans hfb1
  replace hcb2 : w2.cell? ⟨w.heap.size + 1, 2, none⟩ = some (.int .u64 l1) := (hB2.cell (by simp <;> omega)).trans hcb2
  replace hfb2 : w2.frozen? ⟨w.heap.size + 1, 2, none⟩ = false := (hB2.frozen (by simp <;> omega)).trans hfb2
  replace hcr0 : w2.cell? ⟨w.heap.size + 1 + 1, 0, none⟩ = some (.bool false) := (hB2.cell (by simp <;> omega)).trans hcr0
  replace hfr0 : w2.frozen? ⟨w.heap.size + 1 + 1, 0, none⟩ = false := (hB2.frozen (by simp <;> omega)).trans hfr0
  replace hcr1 : w2.cell? ⟨w.heap.size + 1 + 1, 1, none⟩ = some (.int .u64 0) := (hB2.cell (by simp <;> omega)).trans hcr1
  replace hfr1 : w2.frozen? ⟨w.heap.size + 1 + 1, 1, none⟩ = false := (hB2.frozen (by simp <;> omega)).trans hfr1
  replace hcr2 : w2.cell? ⟨w.heap.size + 1 + 1, 2, none⟩ = some (.int .u64 0) := (hB2.cell (by simp <;> omega)).trans hcr2
  replace hfr2 : w2.frozen? ⟨w.heap.size + 1 + 1, 2, none⟩ = false := (hB2.frozen (by simp <;> omega)).trans hfr2
  replace HB : Hid (Below w.heap.size w w2) := HB.out.trans (hB2.mono (by omega))
  replace hs : w.heap.size + 1 + 1 + 1 ≤ w2.heap.size := Nat.le_trans hs hB2.size
  clear hB2
  have hs0 : w.heap.size < w2.heap.size := by omega
  have hs1 : w.heap.size + 1 < w2.heap.size := by omega
  have hs2 : w.heap.size + 1 + 1 < w2.heap.size := by omega
  go_wp2_with fail
  refine (specWideOk n0 (h0 + h1) (l0 + l1) _).mono ?_
  rintro e w3 ⟨rfl, hB3⟩
  rw [hk2]
  have hcr0 : w3.cell? ⟨w.heap.size + 1 + 1, 0, none⟩ = some (.bool false) := by rw [hB3.cell (by simp <;> omega)]; go_simp
  have hfr0 : w3.frozen? ⟨w.heap.size + 1 + 1, 0, none⟩ = false := by rw [hB3.frozen (by simp <;> omega)]; go_simp
  have hcr1 : w3.cell? ⟨w.heap.size + 1 + 1, 1, none⟩ = some (.int .u64 0) := by rw [hB3.cell (by simp <;> omega)]; go_simp
  have hfr1 : w3.frozen? ⟨w.heap.size + 1 + 1, 1, none⟩ = false := by rw [hB3.frozen (by simp <;> omega)]; go_simp
  have hcr2 : w3.cell? ⟨w.heap.size + 1 + 1, 2, none⟩ = some (.int .u64 0) := by rw [hB3.cell (by simp <;> omega)]; go_simp
  have hfr2 : w3.frozen? ⟨w.heap.size + 1 + 1, 2, none⟩ = false := by rw [hB3.frozen (by simp <;> omega)]; go_simp
  have hco0 : w3.cell? ⟨w2.heap.size, 0, none⟩ = some (.bool n0) := by rw [hB3.cell (by simp <;> omega)]; go_simp
  have hfo0 : w3.frozen? ⟨w2.heap.size, 0, none⟩ = false := by rw [hB3.frozen (by simp <;> omega)]; go_simp
  have hco1 : w3.cell? ⟨w2.heap.size, 1, none⟩ = some (.int .u64 (h0 + h1)) := by rw [hB3.cell (by simp <;> omega)]; go_simp
  have hfo1 : w3.frozen? ⟨w2.heap.size, 1, none⟩ = false := by rw [hB3.frozen (by simp <;> omega)]; go_simp
  have hco2 : w3.cell? ⟨w2.heap.size, 2, none⟩ = some (.int .u64 (l0 + l1)) := by rw [hB3.cell (by simp <;> omega)]; go_simp
  have hfo2 : w3.frozen? ⟨w2.heap.size, 2, none⟩ = false := by rw [hB3.frozen (by simp <;> omega)]; go_simp
  replace HB : Hid (Below w.heap.size w w3) := (HB.out.alloc (by omega) _).trans (hB3.mono (by simp <;> omega))
  replace hs : w.heap.size + 1 + 1 + 1 ≤ w3.heap.size := by have := hB3.size; simp at this; omega
  clear hB3
  go_wp2_with fail
  (try simp only [Exit.inBlock, Exit.then])
  refine bodyPost_ret (v := .tuple #[.agg #[.bool n0, .int .u64 (h0 + h1), .int .u64 (l0 + l1)], .bool true]) ?_ rfl ⟨fin, ?_⟩
  · rw [results_cell_tmp rfl]
    go_simp
  · repeat' (first | assumption | exact Below.refl _ _ | exact HB.out | refine Below.alloc ?_ (by simp <;> omega) _ | refine Below.setCell ?_ (by simp <;> omega) _)
set_option maxRecDepth 100000 in
set_option maxHeartbeats 1000000 in
theorem specAdd_same_nc_no (n0 : Bool) (h0 l0 : Int) (h1 l1 : Int) (hp0 : 0 ≤ h0) (hp1 : 0 ≤ h1) (lp0 : 0 ≤ l0) (lq0 : l0 < 18446744073709551616) (lp1 : 0 ≤ l1) (lq1 : l1 < 18446744073709551616) (hk0 : okV n0 h0 l0 = true) (hk1 : okV n0 h1 l1 = true) (hq0 : h0 < 9223372036854775808) (hq1 : h1 < 9223372036854775808) (hcar : l0 + l1 < 18446744073709551616) (hk2 : okV n0 (h0 + h1) (l0 + l1) = false) (fin : Ending.returned (.tuple #[.agg #[.bool false, .int .u64 0, .int .u64 0], .bool false]) = addE n0 h0 l0 n0 h1 l1) (w : World) :
    Calls Tryd.prog 26 #[.agg #[.bool n0, .int .u64 h0, .int .u64 l0], .agg #[.bool n0, .int .u64 h1, .int .u64 l1]] w fun e w' => e = addE n0 h0 l0 n0 h1 l1 ∧ Below w.heap.size w w' := by
  go_enter Tryd.func26, Tryd.ntmps26
  go_wp2_with fail
  refine (specWideOk n0 h0 l0 _).mono ?_
  rintro e w1 ⟨rfl, hB⟩
  rw [hk0]
  have hca0 : w1.cell? ⟨w.heap.size, 0, none⟩ = some (.bool n0) := by rw [hB.cell (by simp <;> omega)]; go_simp
  have hfa0 : w1.frozen? ⟨w.heap.size, 0, none⟩ = false := by rw [hB.frozen (by simp <;> omega)]; go_simp
  have hca1 : w1.cell? ⟨w.heap.size, 1, none⟩ = some (.int .u64 h0) := by rw [hB.cell (by simp <;> omega)]; go_simp
  have hfa1 : w1.frozen? ⟨w.heap.size, 1, none⟩ = false := by rw [hB.frozen (by simp <;> omega)]; go_simp
  have hca2 : w1.cell? ⟨w.heap.size, 2, none⟩ = some (.int .u64 l0) := by rw [hB.cell (by simp <;> omega)]; go_simp
  have hfa2 : w1.frozen? ⟨w.heap.size, 2, none⟩ = false := by rw [hB.frozen (by simp <;> omega)]; go_simp
  have hcb0 : w1.cell? ⟨w.heap.size + 1, 0, none⟩ = some (.bool n0) := by rw [hB.cell (by simp <;> omega)]; go_simp
  have hfb0 : w1.frozen? ⟨w.heap.size + 1, 0, none⟩ = false := by rw [hB.frozen (by simp <;> omega)]; go_simp
  have hcb1 : w1.cell? ⟨w.heap.size + 1, 1, none⟩ = some (.int .u64 h1) := by rw [hB.cell (by simp <;> omega)]; go_simp
  have hfb1 : w1.frozen? ⟨w.heap.size + 1, 1, none⟩ = false := by rw [hB.frozen (by simp <;> omega)]; go_simp
  have hcb2 : w1.cell? ⟨w.heap.size + 1, 2, none⟩ = some (.int .u64 l1) := by rw [hB.cell (by simp <;> omega)]; go_simp
  have hfb2 : w1.frozen? ⟨w.heap.size + 1, 2, none⟩ = false := by rw [hB.frozen (by simp <;> omega)]; go_simp
  have hcr0 : w1.cell? ⟨w.heap.size + 1 + 1, 0, none⟩ = some (.bool false) := by rw [hB.cell (by simp <;> omega)]; go_simp
  have hfr0 : w1.frozen? ⟨w.heap.size + 1 + 1, 0, none⟩ = false := by rw [hB.frozen (by simp <;> omega)]; go_simp
  have hcr1 : w1.cell? ⟨w.heap.size + 1 + 1, 1, none⟩ = some (.int .u64 0) := by rw [hB.cell (by simp <;> omega)]; go_simp
  have hfr1 : w1.frozen? ⟨w.heap.size + 1 + 1, 1, none⟩ = false := by rw [hB.frozen (by simp <;> omega)]; go_simp
  have hcr2 : w1.cell? ⟨w.heap.size + 1 + 1, 2, none⟩ = some (.int .u64 0) := by rw [hB.cell (by simp <;> omega)]; go_simp
  have hfr2 : w1.frozen? ⟨w.heap.size + 1 + 1, 2, none⟩ = false := by rw [hB.frozen (by simp <;> omega)]; go_simp
  have HB : Hid (Below w.heap.size w w1) := ((((Below.refl _ _).alloc (Nat.le_refl _) _).alloc (by simp) _).alloc (by simp <;> omega) _).trans (hB.mono (by simp <;> omega))
  have hs : w.heap.size + 1 + 1 + 1 ≤ w1.heap.size := by have := hB.size; simpa using this
  clear hB
  go_wp2_with fail
  refine (specWideOk n0 h1 l1 _).mono ?_
  rintro e w2 ⟨rfl, hB2⟩
  rw [hk1]
  replace hca0 : w2.cell? ⟨w.heap.size, 0, none⟩ = some (.bool n0) := (hB2.cell (by simp <;> omega)).trans hca0
  replace hfa0 : w2.frozen? ⟨w.heap.size, 0, none⟩ = false := (hB2.frozen (by simp <;> omega)).trans hfa0
  replace hca1 : w2.cell? ⟨w.heap.size, 1, none⟩ = some (.int .u64 h0) := (hB2.cell (by simp <;> omega)).trans hca1
  replace hfa1 : w2.frozen? ⟨w.heap.size, 1, none⟩ = false := (hB2.frozen (by simp <;> omega)).trans hfa1
  replace hca2 : w2.cell? ⟨w.heap.size, 2, none⟩ = some (.int .u64 l0) := (hB2.cell (by simp <;> omega)).trans hca2
  replace hfa2 : w2.frozen? ⟨w.heap.size, 2, none⟩ = false := (hB2.frozen (by simp <;> omega)).trans hfa2
  replace hcb0 : w2.cell? ⟨w.heap.size + 1, 0, none⟩ = some (.bool n0) := (hB2.cell (by simp <;> omega)).trans hcb0
  replace hfb0 : w2.frozen? ⟨w.heap.size + 1, 0, none⟩ = false := (hB2.frozen (by simp <;> omega)).trans hfb0
  replace hcb1 : w2.cell? ⟨w.heap.size + 1, 1, none⟩ = some (.int .u64 h1) := (hB2.cell (by simp <;> omega)).trans hcb1
  replace hfb1 : w2.frozen? ⟨w.heap.size + 1, 1, none⟩ = false := (hB2.frozen (by simp <;> omega)).trans hfb1
  replace hcb2 : w2.cell? ⟨w.heap.size + 1, 2, none⟩ = some (.int .u64 l1) := (hB2.cell (by simp <;> omega)).trans hcb2
  replace hfb2 : w2.frozen? ⟨w.heap.size + 1, 2, none⟩ = false := (hB2.frozen (by simp <;> omega)).trans hfb2
  replace hcr0 : w2.cell? ⟨w.heap.size + 1 + 1, 0, none⟩ = some (.bool false) := (hB2.cell (by simp <;> omega)).trans hcr0
  replace hfr0 : w2.frozen? ⟨w.heap.size + 1 + 1, 0, none⟩ = false := (hB2.frozen (by simp <;> omega)).trans hfr0
  replace hcr1 : w2.cell? ⟨w.heap.size + 1 + 1, 1, none⟩ = some (.int .u64 0) := (hB2.cell (by simp <;> omega)).trans hcr1
  replace hfr1 : w2.frozen? ⟨w.heap.size + 1 + 1, 1, none⟩ = false := (hB2.frozen (by simp <;> omega)).trans hfr1
  replace hcr2 : w2.cell? ⟨w.heap.size + 1 + 1, 2, none⟩ = some (.int .u64 0) := (hB2.cell (by simp <;> omega)).trans hcr2
  replace hfr2 : w2.frozen? ⟨w.heap.size + 1 + 1, 2, none⟩ = false := (hB2.frozen (by simp <;> omega)).trans hfr2
  replace HB : Hid (Below w.heap.size w w2) := HB.out.trans (hB2.mono (by omega))
  replace hs : w.heap.size + 1 + 1 + 1 ≤ w2.heap.size := Nat.le_trans hs hB2.size
  clear hB2
  have hs0 : w.heap.size < w2.heap.size := by omega
  have hs1 : w.heap.size + 1 < w2.heap.size := by omega
  have hs2 : w.heap.size + 1 + 1 < w2.heap.size := by omega
  go_wp2_with fail
  refine (specWideOk n0 (h0 + h1) (l0 + l1) _).mono ?_
  rintro e w3 ⟨rfl, hB3⟩
  rw [hk2]
  have hcr0 : w3.cell? ⟨w.heap.size + 1 + 1, 0, none⟩ = some (.bool false) := by rw [hB3.cell (by simp <;> omega)]; go_simp
  have hfr0 : w3.frozen? ⟨w.heap.size + 1 + 1, 0, none⟩ = false := by rw [hB3.frozen (by simp <;> omega)]; go_simp
  have hcr1 : w3.cell? ⟨w.heap.size + 1 + 1, 1, none⟩ = some (.int .u64 0) := by rw [hB3.cell (by simp <;> omega)]; go_simp
  have hfr1 : w3.frozen? ⟨w.heap.size + 1 + 1, 1, none⟩ = false := by rw [hB3.frozen (by simp <;> omega)]; go_simp
  have hcr2 : w3.cell? ⟨w.heap.size + 1 + 1, 2, none⟩ = some (.int .u64 0) := by rw [hB3.cell (by simp <;> omega)]; go_simp
  have hfr2 : w3.frozen? ⟨w.heap.size + 1 + 1, 2, none⟩ = false := by rw [hB3.frozen (by simp <;> omega)]; go_simp
  have hco0 : w3.cell? ⟨w2.heap.size, 0, none⟩ = some (.bool n0) := by rw [hB3.cell (by simp <;> omega)]; go_simp
  have hfo0 : w3.frozen? ⟨w2.heap.size, 0, none⟩ = false := by rw [hB3.frozen (by simp <;> omega)]; go_simp
  have hco1 : w3.cell? ⟨w2.heap.size, 1, none⟩ = some (.int .u64 (h0 + h1)) := by rw [hB3.cell (by simp <;> omega)]; go_simp
  have hfo1 : w3.frozen? ⟨w2.heap.size, 1, none⟩ = false := by rw [hB3.frozen (by simp <;> omega)]; go_simp
  have hco2 : w3.cell? ⟨w2.heap.size, 2, none⟩ = some (.int .u64 (l0 + l1)) := by rw [hB3.cell (by simp <;> omega)]; go_simp
  have hfo2 : w3.frozen? ⟨w2.heap.size, 2, none⟩ = false := by rw [hB3.frozen (by simp <;> omega)]; go_simp
  replace HB : Hid (Below w.heap.size w w3) := (HB.out.alloc (by omega) _).trans (hB3.mono (by simp <;> omega))
  replace hs : w.heap.size + 1 + 1 + 1 ≤ w3.heap.size := by have := hB3.size; simp at this; omega
  clear hB3
  go_wp2_with fail
  (try simp only [Exit.inBlock, Exit.then])
  refine bodyPost_ret (v := .tuple #[.agg #[.bool false, .int .u64 0, .int .u64 0], .bool false]) ?_ rfl ⟨fin, ?_⟩
  · rw [results_cell_tmp rfl]
    go_simp
  · repeat' (first | assumption | exact Below.refl _ _ | exact HB.out | refine Below.alloc ?_ (by simp <;> omega) _ | refine Below.setCell ?_ (by simp <;> omega) _)
set_option maxRecDepth 100000 in
set_option maxHeartbeats 1000000 in
theorem specAdd_same_c_ok (n0 : Bool) (h0 l0 : Int) (h1 l1 : Int) (hp0 : 0 ≤ h0) (hp1 : 0 ≤ h1) (lp1 : 0 ≤ l1) (lq1 : l1 < 18446744073709551616) (hk0 : okV n0 h0 l0 = true) (hk1 : okV n0 h1 l1 = true) (hq0 : h0 < 9223372036854775808) (hq1 : h1 < 9223372036854775808) (hwr : IntKind.u64.wrap (l0 + l1) = l0 + l1 - 18446744073709551616) (hk2 : okV n0 (h0 + h1 + 1) (l0 + l1 - 18446744073709551616) = true) (fin : Ending.returned (.tuple #[.agg #[.bool n0, .int .u64 (h0 + h1 + 1), .int .u64 (l0 + l1 - 18446744073709551616)], .bool true]) = addE n0 h0 l0 n0 h1 l1) (w : World) :
    Calls Tryd.prog 26 #[.agg #[.bool n0, .int .u64 h0, .int .u64 l0], .agg #[.bool n0, .int .u64 h1, .int .u64 l1]] w fun e w' => e = addE n0 h0 l0 n0 h1 l1 ∧ Below w.heap.size w w' := by
  go_enter Tryd.func26, Tryd.ntmps26
  go_wp2_with fail
  refine (specWideOk n0 h0 l0 _).mono ?_
  rintro e w1 ⟨rfl, hB⟩
  rw [hk0]
  have hca0 : w1.cell? ⟨w.heap.size, 0, none⟩ = some (.bool n0) := by rw [hB.cell (by simp <;> omega)]; go_simp
  have hfa0 : w1.frozen? ⟨w.heap.size, 0, none⟩ = false := by rw [hB.frozen (by simp <;> omega)]; go_simp
  have hca1 : w1.cell? ⟨w.heap.size, 1, none⟩ = some (.int .u64 h0) := by rw [hB.cell (by simp <;> omega)]; go_simp
  have hfa1 : w1.frozen? ⟨w.heap.size, 1, none⟩ = false := by rw [hB.frozen (by simp <;> omega)]; go_simp
  have hca2 : w1.cell? ⟨w.heap.size, 2, none⟩ = some (.int .u64 l0) := by rw [hB.cell (by simp <;> omega)]; go_simp
  have hfa2 : w1.frozen? ⟨w.heap.size, 2, none⟩ = false := by rw [hB.frozen (by simp <;> omega)]; go_simp
  have hcb0 : w1.cell? ⟨w.heap.size + 1, 0, none⟩ = some (.bool n0) := by rw [hB.cell (by simp <;> omega)]; go_simp
  have hfb0 : w1.frozen? ⟨w.heap.size + 1, 0, none⟩ = false := by rw [hB.frozen (by simp <;> omega)]; go_simp
  have hcb1 : w1.cell? ⟨w.heap.size + 1, 1, none⟩ = some (.int .u64 h1) := by rw [hB.cell (by simp <;> omega)]; go_simp
  have hfb1 : w1.frozen? ⟨w.heap.size + 1, 1, none⟩ = false := by rw [hB.frozen (by simp <;> omega)]; go_simp
  have hcb2 : w1.cell? ⟨w.heap.size + 1, 2, none⟩ = some (.int .u64 l1) := by rw [hB.cell (by simp <;> omega)]; go_simp
  have hfb2 : w1.frozen? ⟨w.heap.size + 1, 2, none⟩ = false := by rw [hB.frozen (by simp <;> omega)]; go_simp
  have hcr0 : w1.cell? ⟨w.heap.size + 1 + 1, 0, none⟩ = some (.bool false) := by rw [hB.cell (by simp <;> omega)]; go_simp
  have hfr0 : w1.frozen? ⟨w.heap.size + 1 + 1, 0, none⟩ = false := by rw [hB.frozen (by simp <;> omega)]; go_simp
  have hcr1 : w1.cell? ⟨w.heap.size + 1 + 1, 1, none⟩ = some (.int .u64 0) := by rw [hB.cell (by simp <;> omega)]; go_simp
  have hfr1 : w1.frozen? ⟨w.heap.size + 1 + 1, 1, none⟩ = false := by rw [hB.frozen (by simp <;> omega)]; go_simp
  have hcr2 : w1.cell? ⟨w.heap.size + 1 + 1, 2, none⟩ = some (.int .u64 0) := by rw [hB.cell (by simp <;> omega)]; go_simp
  have hfr2 : w1.frozen? ⟨w.heap.size + 1 + 1, 2, none⟩ = false := by rw [hB.frozen (by simp <;> omega)]; go_simp
  have HB : Hid (Below w.heap.size w w1) := ((((Below.refl _ _).alloc (Nat.le_refl _) _).alloc (by simp) _).alloc (by simp <;> omega) _).trans (hB.mono (by simp <;> omega))
  have hs : w.heap.size + 1 + 1 + 1 ≤ w1.heap.size := by have := hB.size; simpa using this
  clear hB
  go_wp2_with fail
  refine (specWideOk n0 h1 l1 _).mono ?_
  rintro e w2 ⟨rfl, hB2⟩
  rw [hk1]
  replace hca0 : w2.cell? ⟨w.heap.size, 0, none⟩ = some (.bool n0) := (hB2.cell (by simp <;> omega)).trans hca0
  replace hfa0 : w2.frozen? ⟨w.heap.size, 0, none⟩ = false := (hB2.frozen (by simp <;> omega)).trans hfa0
  replace hca1 : w2.cell? ⟨w.heap.size, 1, none⟩ = some (.int .u64 h0) := (hB2.cell (by simp <;> omega)).trans hca1
  replace hfa1 : w2.frozen? ⟨w.heap.size, 1, none⟩ = false := (hB2.frozen (by simp <;> omega)).trans hfa1
  replace hca2 : w2.cell? ⟨w.heap.size, 2, none⟩ = some (.int .u64 l0) := (hB2.cell (by simp <;> omega)).trans hca2
  replace hfa2 : w2.frozen? ⟨w.heap.size, 2, none⟩ = false := (hB2.frozen (by simp <;> omega)).trans hfa2
  replace hcb0 : w2.cell? ⟨w.heap.size + 1, 0, none⟩ = some (.bool n0) := (hB2.cell (by simp <;> omega)).trans hcb0
  replace hfb0 : w2.frozen? ⟨w.heap.size + 1, 0, none⟩ = false := (hB2.frozen (by simp <;> omega)).trans hfb0
  replace hcb1 : w2.cell? ⟨w.heap.size + 1, 1, none⟩ = some (.int .u64 h1) := (hB2.cell (by simp <;> omega)).trans hcb1
  replace hfb1 : w2.frozen? ⟨w.heap.size + 1, 1, none⟩ = false := (hB2.frozen (by simp <;> omega)).trans hfb1
  replace hcb2 : w2.cell? ⟨w.heap.size + 1, 2, none⟩ = some (.int .u64 l1) := (hB2.cell (by simp <;> omega)).trans hcb2
  replace hfb2 : w2.frozen? ⟨w.heap.size + 1, 2, none⟩ = false := (hB2.frozen (by simp <;> omega)).trans hfb2
  replace hcr0 : w2.cell? ⟨w.heap.size + 1 + 1, 0, none⟩ = some (.bool false) := (hB2.cell (by simp <;> omega)).trans hcr0
  replace hfr0 : w2.frozen? ⟨w.heap.size + 1 + 1, 0, none⟩ = false := (hB2.frozen (by simp <;> omega)).trans hfr0
  replace hcr1 : w2.cell? ⟨w.heap.size + 1 + 1, 1, none⟩ = some (.int .u64 0) := (hB2.cell (by simp <;> omega)).trans hcr1
  replace hfr1 : w2.frozen? ⟨w.heap.size + 1 + 1, 1, none⟩ = false := (hB2.frozen (by simp <;> omega)).trans hfr1
  replace hcr2 : w2.cell? ⟨w.heap.size + 1 + 1, 2, none⟩ = some (.int .u64 0) := (hB2.cell (by simp <;> omega)).trans hcr2
  replace hfr2 : w2.frozen? ⟨w.heap.size + 1 + 1, 2, none⟩ = false := (hB2.frozen (by simp <;> omega)).trans hfr2
  replace HB : Hid (Below w.heap.size w w2) := HB.out.trans (hB2.mono (by omega))
  replace hs : w.heap.size + 1 + 1 + 1 ≤ w2.heap.size := Nat.le_trans hs hB2.size
  clear hB2
  have hs0 : w.heap.size < w2.heap.size := by omega
  have hs1 : w.heap.size + 1 < w2.heap.size := by omega
  have hs2 : w.heap.size + 1 + 1 < w2.heap.size := by omega
  go_wp2_with fail
  refine (specWideOk n0 (h0 + h1 + 1) (l0 + l1 - 18446744073709551616) _).mono ?_
  rintro e w3 ⟨rfl, hB3⟩
  rw [hk2]
  have hcr0 : w3.cell? ⟨w.heap.size + 1 + 1, 0, none⟩ = some (.bool false) := by rw [hB3.cell (by simp <;> omega)]; go_simp
  have hfr0 : w3.frozen? ⟨w.heap.size + 1 + 1, 0, none⟩ = false := by rw [hB3.frozen (by simp <;> omega)]; go_simp
  have hcr1 : w3.cell? ⟨w.heap.size + 1 + 1, 1, none⟩ = some (.int .u64 0) := by rw [hB3.cell (by simp <;> omega)]; go_simp
  have hfr1 : w3.frozen? ⟨w.heap.size + 1 + 1, 1, none⟩ = false := by rw [hB3.frozen (by simp <;> omega)]; go_simp
  have hcr2 : w3.cell? ⟨w.heap.size + 1 + 1, 2, none⟩ = some (.int .u64 0) := by rw [hB3.cell (by simp <;> omega)]; go_simp
  have hfr2 : w3.frozen? ⟨w.heap.size + 1 + 1, 2, none⟩ = false := by rw [hB3.frozen (by simp <;> omega)]; go_simp
  have hco0 : w3.cell? ⟨w2.heap.size, 0, none⟩ = some (.bool n0) := by rw [hB3.cell (by simp <;> omega)]; go_simp
  have hfo0 : w3.frozen? ⟨w2.heap.size, 0, none⟩ = false := by rw [hB3.frozen (by simp <;> omega)]; go_simp
  have hco1 : w3.cell? ⟨w2.heap.size, 1, none⟩ = some (.int .u64 (h0 + h1 + 1)) := by rw [hB3.cell (by simp <;> omega)]; go_simp
  have hfo1 : w3.frozen? ⟨w2.heap.size, 1, none⟩ = false := by rw [hB3.frozen (by simp <;> omega)]; go_simp
  have hco2 : w3.cell? ⟨w2.heap.size, 2, none⟩ = some (.int .u64 (l0 + l1 - 18446744073709551616)) := by rw [hB3.cell (by simp <;> omega)]; go_simp
  have hfo2 : w3.frozen? ⟨w2.heap.size, 2, none⟩ = false := by rw [hB3.frozen (by simp <;> omega)]; go_simp
  replace HB : Hid (Below w.heap.size w w3) := (HB.out.alloc (by omega) _).trans (hB3.mono (by simp <;> omega))
  replace hs : w.heap.size + 1 + 1 + 1 ≤ w3.heap.size := by have := hB3.size; simp at this; omega
  clear hB3
  go_wp2_with fail
  (try simp only [Exit.inBlock, Exit.then])
  refine bodyPost_ret (v := .tuple #[.agg #[.bool n0, .int .u64 (h0 + h1 + 1), .int .u64 (l0 + l1 - 18446744073709551616)], .bool true]) ?_ rfl ⟨fin, ?_⟩
  · rw [results_cell_tmp rfl]
    go_simp
  · repeat' (first | assumption | exact Below.refl _ _ | exact HB.out | refine Below.alloc ?_ (by simp <;> omega) _ | refine Below.setCell ?_ (by simp <;> omega) _)
set_option maxRecDepth 100000 in
set_option maxHeartbeats 1000000 in
theorem specAdd_same_c_no (n0 : Bool) (h0 l0 : Int) (h1 l1 : Int) (hp0 : 0 ≤ h0) (hp1 : 0 ≤ h1) (lp1 : 0 ≤ l1) (lq1 : l1 < 18446744073709551616) (hk0 : okV n0 h0 l0 = true) (hk1 : okV n0 h1 l1 = true) (hq0 : h0 < 9223372036854775808) (hq1 : h1 < 9223372036854775808) (hwr : IntKind.u64.wrap (l0 + l1) = l0 + l1 - 18446744073709551616) (hk2 : okV n0 (h0 + h1 + 1) (l0 + l1 - 18446744073709551616) = false) (fin : Ending.returned (.tuple #[.agg #[.bool false, .int .u64 0, .int .u64 0], .bool false]) = addE n0 h0 l0 n0 h1 l1) (w : World) :
    Calls Tryd.prog 26 #[.agg #[.bool n0, .int .u64 h0, .int .u64 l0], .agg #[.bool n0, .int .u64 h1, .int .u64 l1]] w fun e w' => e = addE n0 h0 l0 n0 h1 l1 ∧ Below w.heap.size w w' := by
  go_enter Tryd.func26, Tryd.ntmps26
  go_wp2_with fail
  refine (specWideOk n0 h0 l0 _).mono ?_
  rintro e w1 ⟨rfl, hB⟩
  rw [hk0]
  have hca0 : w1.cell? ⟨w.heap.size, 0, none⟩ = some (.bool n0) := by rw [hB.cell (by simp <;> omega)]; go_simp
  have hfa0 : w1.frozen? ⟨w.heap.size, 0, none⟩ = false := by rw [hB.frozen (by simp <;> omega)]; go_simp
  have hca1 : w1.cell? ⟨w.heap.size, 1, none⟩ = some (.int .u64 h0) := by rw [hB.cell (by simp <;> omega)]; go_simp
  have hfa1 : w1.frozen? ⟨w.heap.size, 1, none⟩ = false := by rw [hB.frozen (by simp <;> omega)]; go_simp
  have hca2 : w1.cell? ⟨w.heap.size, 2, none⟩ = some (.int .u64 l0) := by rw [hB.cell (by simp <;> omega)]; go_simp
  have hfa2 : w1.frozen? ⟨w.heap.size, 2, none⟩ = false := by rw [hB.frozen (by simp <;> omega)]; go_simp
  have hcb0 : w1.cell? ⟨w.heap.size + 1, 0, none⟩ = some (.bool n0) := by rw [hB.cell (by simp <;> omega)]; go_simp
  have hfb0 : w1.frozen? ⟨w.heap.size + 1, 0, none⟩ = false := by rw [hB.frozen (by simp <;> omega)]; go_simp
  have hcb1 : w1.cell? ⟨w.heap.size + 1, 1, none⟩ = some (.int .u64 h1) := by rw [hB.cell (by simp <;> omega)]; go_simp
  have hfb1 : w1.frozen? ⟨w.heap.size + 1, 1, none⟩ = false := by rw [hB.frozen (by simp <;> omega)]; go_simp
  have hcb2 : w1.cell? ⟨w.heap.size + 1, 2, none⟩ = some (.int .u64 l1) := by rw [hB.cell (by simp <;> omega)]; go_simp
  have hfb2 : w1.frozen? ⟨w.heap.size + 1, 2, none⟩ = false := by rw [hB.frozen (by simp <;> omega)]; go_simp
  have hcr0 : w1.cell? ⟨w.heap.size + 1 + 1, 0, none⟩ = some (.bool false) := by rw [hB.cell (by simp <;> omega)]; go_simp
  have hfr0 : w1.frozen? ⟨w.heap.size + 1 + 1, 0, none⟩ = false := by rw [hB.frozen (by simp <;> omega)]; go_simp
  have hcr1 : w1.cell? ⟨w.heap.size + 1 + 1, 1, none⟩ = some (.int .u64 0) := by rw [hB.cell (by simp <;> omega)]; go_simp
  have hfr1 : w1.frozen? ⟨w.heap.size + 1 + 1, 1, none⟩ = false := by rw [hB.frozen (by simp <;> omega)]; go_simp
  have hcr2 : w1.cell? ⟨w.heap.size + 1 + 1, 2, none⟩ = some (.int .u64 0) := by rw [hB.cell (by simp <;> omega)]; go_simp
  have hfr2 : w1.frozen? ⟨w.heap.size + 1 + 1, 2, none⟩ = false := by rw [hB.frozen (by simp <;> omega)]; go_simp
  have HB : Hid (Below w.heap.size w w1) := ((((Below.refl _ _).alloc (Nat.le_refl _) _).alloc (by simp) _).alloc (by simp <;> omega) _).trans (hB.mono (by simp <;> omega))
  have hs : w.heap.size + 1 + 1 + 1 ≤ w1.heap.size := by have := hB.size; simpa using this
  clear hB
  go_wp2_with fail
  refine (specWideOk n0 h1 l1 _).mono ?_
  rintro e w2 ⟨rfl, hB2⟩
  rw [hk1]
  replace hca0 : w2.cell? ⟨w.heap.size, 0, none⟩ = some (.bool n0) := (hB2.cell (by simp <;> omega)).trans hca0
  replace hfa0 : w2.frozen? ⟨w.heap.size, 0, none⟩ = false := (hB2.frozen (by simp <;> omega)).trans hfa0
  replace hca1 : w2.cell? ⟨w.heap.size, 1, none⟩ = some (.int .u64 h0) := (hB2.cell (by simp <;> omega)).trans hca1
  replace hfa1 : w2.frozen? ⟨w.heap.size, 1, none⟩ = false := (hB2.frozen (by simp <;> omega)).trans hfa1
  replace hca2 : w2.cell? ⟨w.heap.size, 2, none⟩ = some (.int .u64 l0) := (hB2.cell (by simp <;> omega)).trans hca2
  replace hfa2 : w2.frozen? ⟨w.heap.size, 2, none⟩ = false := (hB2.frozen (by simp <;> omega)).trans hfa2
  replace hcb0 : w2.cell? ⟨w.heap.size + 1, 0, none⟩ = some (.bool n0) := (hB2.cell (by simp <;> omega)).trans hcb0
  replace hfb0 : w2.frozen? ⟨w.heap.size + 1, 0, none⟩ = false := (hB2.frozen (by simp <;> omega)).trans hfb0
  replace hcb1 : w2.cell? ⟨w.heap.size + 1, 1, none⟩ = some (.int .u64 h1) := (hB2.cell (by simp <;> omega)).trans hcb1
  replace hfb1 : w2.frozen? ⟨w.heap.size + 1, 1, none⟩ = false := (hB2.frozen (by simp <;> omega)).trans hfb1
  replace hcb2 : w2.cell? ⟨w.heap.size + 1, 2, none⟩ = some (.int .u64 l1) := (hB2.cell (by simp <;> omega)).trans hcb2
  replace hfb2 : w2.frozen? ⟨w.heap.size + 1, 2, none⟩ = false := (hB2.frozen (by simp <;> omega)).trans hfb2
  replace hcr0 : w2.cell? ⟨w.heap.size + 1 + 1, 0, none⟩ = some (.bool false) := (hB2.cell (by simp <;> omega)).trans hcr0
  replace hfr0 : w2.frozen? ⟨w.heap.size + 1 + 1, 0, none⟩ = false := (hB2.frozen (by simp <;> omega)).trans hfr0
  replace hcr1 : w2.cell? ⟨w.heap.size + 1 + 1, 1, none⟩ = some (.int .u64 0) := (hB2.cell (by simp <;> omega)).trans hcr1
  replace hfr1 : w2.frozen? ⟨w.heap.size + 1 + 1, 1, none⟩ = false := (hB2.frozen (by simp <;> omega)).trans hfr1
  replace hcr2 : w2.cell? ⟨w.heap.size + 1 + 1, 2, none⟩ = some (.int .u64 0) := (hB2.cell (by simp <;> omega)).trans hcr2
  replace hfr2 : w2.frozen? ⟨w.heap.size + 1 + 1, 2, none⟩ = false := (hB2.frozen (by simp <;> omega)).trans hfr2
  replace HB : Hid (Below w.heap.size w w2) := HB.out.trans (hB2.mono (by omega))
  replace hs : w.heap.size + 1 + 1 + 1 ≤ w2.heap.size := Nat.le_trans hs hB2.size
  clear hB2
  have hs0 : w.heap.size < w2.heap.size := by omega
  have hs1 : w.heap.size + 1 < w2.heap.size := by omega
  have hs2 : w.heap.size + 1 + 1 < w2.heap.size := by omega
  go_wp2_with fail
  refine (specWideOk n0 (h0 + h1 + 1) (l0 + l1 - 18446744073709551616) _).mono ?_
  rintro e w3 ⟨rfl, hB3⟩
  rw [hk2]
  have hcr0 : w3.cell? ⟨w.heap.size + 1 + 1, 0, none⟩ = some (.bool false) := by rw [hB3.cell (by simp <;> omega)]; go_simp
  have hfr0 : w3.frozen? ⟨w.heap.size + 1 + 1, 0, none⟩ = false := by rw [hB3.frozen (by simp <;> omega)]; go_simp
  have hcr1 : w3.cell? ⟨w.heap.size + 1 + 1, 1, none⟩ = some (.int .u64 0) := by rw [hB3.cell (by simp <;> omega)]; go_simp
  have hfr1 : w3.frozen? ⟨w.heap.size + 1 + 1, 1, none⟩ = false := by rw [hB3.frozen (by simp <;> omega)]; go_simp
  have hcr2 : w3.cell? ⟨w.heap.size + 1 + 1, 2, none⟩ = some (.int .u64 0) := by rw [hB3.cell (by simp <;> omega)]; go_simp
  have hfr2 : w3.frozen? ⟨w.heap.size + 1 + 1, 2, none⟩ = false := by rw [hB3.frozen (by simp <;> omega)]; go_simp
  have hco0 : w3.cell? ⟨w2.heap.size, 0, none⟩ = some (.bool n0) := by rw [hB3.cell (by simp <;> omega)]; go_simp
  have hfo0 : w3.frozen? ⟨w2.heap.size, 0, none⟩ = false := by rw [hB3.frozen (by simp <;> omega)]; go_simp
  have hco1 : w3.cell? ⟨w2.heap.size, 1, none⟩ = some (.int .u64 (h0 + h1 + 1)) := by rw [hB3.cell (by simp <;> omega)]; go_simp
  have hfo1 : w3.frozen? ⟨w2.heap.size, 1, none⟩ = false := by rw [hB3.frozen (by simp <;> omega)]; go_simp
  have hco2 : w3.cell? ⟨w2.heap.size, 2, none⟩ = some (.int .u64 (l0 + l1 - 18446744073709551616)) := by rw [hB3.cell (by simp <;> omega)]; go_simp
  have hfo2 : w3.frozen? ⟨w2.heap.size, 2, none⟩ = false := by rw [hB3.frozen (by simp <;> omega)]; go_simp
  replace HB : Hid (Below w.heap.size w w3) := (HB.out.alloc (by omega) _).trans (hB3.mono (by simp <;> omega))
  replace hs : w.heap.size + 1 + 1 + 1 ≤ w3.heap.size := by have := hB3.size; simp at this; omega
  clear hB3
  go_wp2_with fail
  (try simp only [Exit.inBlock, Exit.then])
  refine bodyPost_ret (v := .tuple #[.agg #[.bool false, .int .u64 0, .int .u64 0], .bool false]) ?_ rfl ⟨fin, ?_⟩
  · rw [results_cell_tmp rfl]
    go_simp
  · repeat' (first | assumption | exact Below.refl _ _ | exact HB.out | refine Below.alloc ?_ (by simp <;> omega) _ | refine Below.setCell ?_ (by simp <;> omega) _)
set_option maxRecDepth 100000 in
set_option maxHeartbeats 1000000 in
theorem specAdd_diff_lt_nb (n0 : Bool) (h0 l0 : Int) (n1 : Bool) (h1 l1 : Int) (hp0 : 0 ≤ h0) (hp1 : 0 ≤ h1) (lp0 : 0 ≤ l0) (lq0 : l0 < 18446744073709551616) (lp1 : 0 ≤ l1) (lq1 : l1 < 18446744073709551616) (hk0 : okV n0 h0 l0 = true) (hk1 : okV n1 h1 l1 = true) (hq0 : h0 < 9223372036854775808) (hq1 : h1 < 9223372036854775808)  (hn : (n0 == n1) = false) (ho : ordV h0 l0 h1 l1 = -1) (hh : h0 ≤ h1) (hll : l0 ≤ l1) (hz : decide (h1 - h0 = 0 ∧ l1 - l0 = 0) = false) (fin : Ending.returned (.tuple #[.agg #[.bool n1, .int .u64 (h1 - h0), .int .u64 (l1 - l0)], .bool true]) = addE n0 h0 l0 n1 h1 l1) (w : World) :
    Calls Tryd.prog 26 #[.agg #[.bool n0, .int .u64 h0, .int .u64 l0], .agg #[.bool n1, .int .u64 h1, .int .u64 l1]] w fun e w' => e = addE n0 h0 l0 n1 h1 l1 ∧ Below w.heap.size w w' := by
  go_enter Tryd.func26, Tryd.ntmps26
  go_wp2_with fail
  refine (specWideOk n0 h0 l0 _).mono ?_
  rintro e w1 ⟨rfl, hB⟩
  rw [hk0]
  have hca0 : w1.cell? ⟨w.heap.size, 0, none⟩ = some (.bool n0) := by rw [hB.cell (by simp <;> omega)]; go_simp
  have hfa0 : w1.frozen? ⟨w.heap.size, 0, none⟩ = false := by rw [hB.frozen (by simp <;> omega)]; go_simp
  have hca1 : w1.cell? ⟨w.heap.size, 1, none⟩ = some (.int .u64 h0) := by rw [hB.cell (by simp <;> omega)]; go_simp
  have hfa1 : w1.frozen? ⟨w.heap.size, 1, none⟩ = false := by rw [hB.frozen (by simp <;> omega)]; go_simp
  have hca2 : w1.cell? ⟨w.heap.size, 2, none⟩ = some (.int .u64 l0) := by rw [hB.cell (by simp <;> omega)]; go_simp
  have hfa2 : w1.frozen? ⟨w.heap.size, 2, none⟩ = false := by rw [hB.frozen (by simp <;> omega)]; go_simp
  have hcb0 : w1.cell? ⟨w.heap.size + 1, 0, none⟩ = some (.bool n1) := by rw [hB.cell (by simp <;> omega)]; go_simp
  have hfb0 : w1.frozen? ⟨w.heap.size + 1, 0, none⟩ = false := by rw [hB.frozen (by simp <;> omega)]; go_simp
  have hcb1 : w1.cell? ⟨w.heap.size + 1, 1, none⟩ = some (.int .u64 h1) := by rw [hB.cell (by simp <;> omega)]; go_simp
  have hfb1 : w1.frozen? ⟨w.heap.size + 1, 1, none⟩ = false := by rw [hB.frozen (by simp <;> omega)]; go_simp
  have hcb2 : w1.cell? ⟨w.heap.size + 1, 2, none⟩ = some (.int .u64 l1) := by rw [hB.cell (by simp <;> omega)]; go_simp
  have hfb2 : w1.frozen? ⟨w.heap.size + 1, 2, none⟩ = false := by rw [hB.frozen (by simp <;> omega)]; go_simp
  have hcr0 : w1.cell? ⟨w.heap.size + 1 + 1, 0, none⟩ = some (.bool false) := by rw [hB.cell (by simp <;> omega)]; go_simp
  have hfr0 : w1.frozen? ⟨w.heap.size + 1 + 1, 0, none⟩ = false := by rw [hB.frozen (by simp <;> omega)]; go_simp
  have hcr1 : w1.cell? ⟨w.heap.size + 1 + 1, 1, none⟩ = some (.int .u64 0) := by rw [hB.cell (by simp <;> omega)]; go_simp
  have hfr1 : w1.frozen? ⟨w.heap.size + 1 + 1, 1, none⟩ = false := by rw [hB.frozen (by simp <;> omega)]; go_simp
  have hcr2 : w1.cell? ⟨w.heap.size + 1 + 1, 2, none⟩ = some (.int .u64 0) := by rw [hB.cell (by simp <;> omega)]; go_simp
  have hfr2 : w1.frozen? ⟨w.heap.size + 1 + 1, 2, none⟩ = false := by rw [hB.frozen (by simp <;> omega)]; go_simp
  have HB : Hid (Below w.heap.size w w1) := ((((Below.refl _ _).alloc (Nat.le_refl _) _).alloc (by simp) _).alloc (by simp <;> omega) _).trans (hB.mono (by simp <;> omega))
  have hs : w.heap.size + 1 + 1 + 1 ≤ w1.heap.size := by have := hB.size; simpa using this
  clear hB
  go_wp2_with fail
  refine (specWideOk n1 h1 l1 _).mono ?_
  rintro e w2 ⟨rfl, hB2⟩
  rw [hk1]
  replace hca0 : w2.cell? ⟨w.heap.size, 0, none⟩ = some (.bool n0) := (hB2.cell (by simp <;> omega)).trans hca0
  replace hfa0 : w2.frozen? ⟨w.heap.size, 0, none⟩ = false := (hB2.frozen (by simp <;> omega)).trans hfa0
  replace hca1 : w2.cell? ⟨w.heap.size, 1, none⟩ = some (.int .u64 h0) := (hB2.cell (by simp <;> omega)).trans hca1
  replace hfa1 : w2.frozen? ⟨w.heap.size, 1, none⟩ = false := (hB2.frozen (by simp <;> omega)).trans hfa1
  replace hca2 : w2.cell? ⟨w.heap.size, 2, none⟩ = some (.int .u64 l0) := (hB2.cell (by simp <;> omega)).trans hca2
  replace hfa2 : w2.frozen? ⟨w.heap.size, 2, none⟩ = false := (hB2.frozen (by simp <;> omega)).trans hfa2
  replace hcb0 : w2.cell? ⟨w.heap.size + 1, 0, none⟩ = some (.bool n1) := (hB2.cell (by simp <;> omega)).trans hcb0
  replace hfb0 : w2.frozen? ⟨w.heap.size + 1, 0, none⟩ = false := (hB2.frozen (by simp <;> omega)).trans hfb0
  replace hcb1 : w2.cell? ⟨w.heap.size + 1, 1, none⟩ = some (.int .u64 h1) := (hB2.cell (by simp <;> omega)).trans hcb1
  replace hfb1 : w2.frozen? ⟨w.heap.size + 1, 1, none⟩ = false := (hB2.frozen (by simp <;> omega)).trans hfb1
  replace hcb2 : w2.cell? ⟨w.heap.size + 1, 2, none⟩ = some (.int .u64 l1) := (hB2.cell (by simp <;> omega)).trans hcb2
  replace hfb2 : w2.frozen? ⟨w.heap.size + 1, 2, none⟩ = false := (hB2.frozen (by simp <;> omega)).trans hfb2
  replace hcr0 : w2.cell? ⟨w.heap.size + 1 + 1, 0, none⟩ = some (.bool false) := (hB2.cell (by simp <;> omega)).trans hcr0
  replace hfr0 : w2.frozen? ⟨w.heap.size + 1 + 1, 0, none⟩ = false := (hB2.frozen (by simp <;> omega)).trans hfr0
  replace hcr1 : w2.cell? ⟨w.heap.size + 1 + 1, 1, none⟩ = some (.int .u64 0) := (hB2.cell (by simp <;> omega)).trans hcr1
  replace hfr1 : w2.frozen? ⟨w.heap.size + 1 + 1, 1, none⟩ = false := (hB2.frozen (by simp <;> omega)).trans hfr1
  replace hcr2 : w2.cell? ⟨w.heap.size + 1 + 1, 2, none⟩ = some (.int .u64 0) := (hB2.cell (by simp <;> omega)).trans hcr2
  replace hfr2 : w2.frozen? ⟨w.heap.size + 1 + 1, 2, none⟩ = false := (hB2.frozen (by simp <;> omega)).trans hfr2
  replace HB : Hid (Below w.heap.size w w2) := HB.out.trans (hB2.mono (by omega))
  replace hs : w.heap.size + 1 + 1 + 1 ≤ w2.heap.size := Nat.le_trans hs hB2.size
  clear hB2
  have hs0 : w.heap.size < w2.heap.size := by omega
  have hs1 : w.heap.size + 1 < w2.heap.size := by omega
  have hs2 : w.heap.size + 1 + 1 < w2.heap.size := by omega
  go_wp2_with fail
  refine (specOrder n0 h0 l0 n1 h1 l1 _).mono ?_
  rintro e w3 ⟨rfl, hB3⟩
  rw [ho]
  have hca0 : w3.cell? ⟨w.heap.size, 0, none⟩ = some (.bool n0) := by rw [hB3.cell (by simp <;> omega)]; go_simp
  have hfa0 : w3.frozen? ⟨w.heap.size, 0, none⟩ = false := by rw [hB3.frozen (by simp <;> omega)]; go_simp
  have hca1 : w3.cell? ⟨w.heap.size, 1, none⟩ = some (.int .u64 h0) := by rw [hB3.cell (by simp <;> omega)]; go_simp
  have hfa1 : w3.frozen? ⟨w.heap.size, 1, none⟩ = false := by rw [hB3.frozen (by simp <;> omega)]; go_simp
  have hca2 : w3.cell? ⟨w.heap.size, 2, none⟩ = some (.int .u64 l0) := by rw [hB3.cell (by simp <;> omega)]; go_simp
  have hfa2 : w3.frozen? ⟨w.heap.size, 2, none⟩ = false := by rw [hB3.frozen (by simp <;> omega)]; go_simp
  have hcb0 : w3.cell? ⟨w.heap.size + 1, 0, none⟩ = some (.bool n1) := by rw [hB3.cell (by simp <;> omega)]; go_simp
  have hfb0 : w3.frozen? ⟨w.heap.size + 1, 0, none⟩ = false := by rw [hB3.frozen (by simp <;> omega)]; go_simp
  have hcb1 : w3.cell? ⟨w.heap.size + 1, 1, none⟩ = some (.int .u64 h1) := by rw [hB3.cell (by simp <;> omega)]; go_simp
  have hfb1 : w3.frozen? ⟨w.heap.size + 1, 1, none⟩ = false := by rw [hB3.frozen (by simp <;> omega)]; go_simp
  have hcb2 : w3.cell? ⟨w.heap.size + 1, 2, none⟩ = some (.int .u64 l1) := by rw [hB3.cell (by simp <;> omega)]; go_simp
  have hfb2 : w3.frozen? ⟨w.heap.size + 1, 2, none⟩ = false := by rw [hB3.frozen (by simp <;> omega)]; go_simp
  have hcr0 : w3.cell? ⟨w.heap.size + 1 + 1, 0, none⟩ = some (.bool false) := by rw [hB3.cell (by simp <;> omega)]; go_simp
  have hfr0 : w3.frozen? ⟨w.heap.size + 1 + 1, 0, none⟩ = false := by rw [hB3.frozen (by simp <;> omega)]; go_simp
  have hcr1 : w3.cell? ⟨w.heap.size + 1 + 1, 1, none⟩ = some (.int .u64 0) := by rw [hB3.cell (by simp <;> omega)]; go_simp
  have hfr1 : w3.frozen? ⟨w.heap.size + 1 + 1, 1, none⟩ = false := by rw [hB3.frozen (by simp <;> omega)]; go_simp
  have hcr2 : w3.cell? ⟨w.heap.size + 1 + 1, 2, none⟩ = some (.int .u64 0) := by rw [hB3.cell (by simp <;> omega)]; go_simp
  have hfr2 : w3.frozen? ⟨w.heap.size + 1 + 1, 2, none⟩ = false := by rw [hB3.frozen (by simp <;> omega)]; go_simp
  have hcx0 : w3.cell? ⟨w2.heap.size, 0, none⟩ = some (.bool n0) := by rw [hB3.cell (by simp <;> omega)]; go_simp
  have hfx0 : w3.frozen? ⟨w2.heap.size, 0, none⟩ = false := by rw [hB3.frozen (by simp <;> omega)]; go_simp
  have hcx1 : w3.cell? ⟨w2.heap.size, 1, none⟩ = some (.int .u64 h0) := by rw [hB3.cell (by simp <;> omega)]; go_simp
  have hfx1 : w3.frozen? ⟨w2.heap.size, 1, none⟩ = false := by rw [hB3.frozen (by simp <;> omega)]; go_simp
  have hcx2 : w3.cell? ⟨w2.heap.size, 2, none⟩ = some (.int .u64 l0) := by rw [hB3.cell (by simp <;> omega)]; go_simp
  have hfx2 : w3.frozen? ⟨w2.heap.size, 2, none⟩ = false := by rw [hB3.frozen (by simp <;> omega)]; go_simp
  have hcy0 : w3.cell? ⟨w2.heap.size + 1, 0, none⟩ = some (.bool n1) := by rw [hB3.cell (by simp <;> omega)]; go_simp
  have hfy0 : w3.frozen? ⟨w2.heap.size + 1, 0, none⟩ = false := by rw [hB3.frozen (by simp <;> omega)]; go_simp
  have hcy1 : w3.cell? ⟨w2.heap.size + 1, 1, none⟩ = some (.int .u64 h1) := by rw [hB3.cell (by simp <;> omega)]; go_simp
  have hfy1 : w3.frozen? ⟨w2.heap.size + 1, 1, none⟩ = false := by rw [hB3.frozen (by simp <;> omega)]; go_simp
  have hcy2 : w3.cell? ⟨w2.heap.size + 1, 2, none⟩ = some (.int .u64 l1) := by rw [hB3.cell (by simp <;> omega)]; go_simp
  have hfy2 : w3.frozen? ⟨w2.heap.size + 1, 2, none⟩ = false := by rw [hB3.frozen (by simp <;> omega)]; go_simp
  replace HB : Hid (Below w.heap.size w w3) := ((HB.out.alloc (by omega) _).alloc (by simp <;> omega) _).trans (hB3.mono (by simp <;> omega))
  have hs3 : w2.heap.size + 1 + 1 ≤ w3.heap.size := by have := hB3.size; simp at this; omega
  clear hB3
  have e0 : ¬ (w.heap.size = w2.heap.size) := by omega
  have e1 : ¬ (w.heap.size + 1 = w2.heap.size) := by omega
  have e2 : ¬ (w.heap.size + 1 + 1 = w2.heap.size) := by omega
  have e0' : ¬ (w.heap.size = w2.heap.size + 1) := by omega
  have e1' : ¬ (w.heap.size = w2.heap.size) := by omega
  have e2' : ¬ (w.heap.size + 1 = w2.heap.size) := by omega
  have f0 : w.heap.size < w3.heap.size := by omega
  have f1 : w.heap.size + 1 < w3.heap.size := by omega
  have f2 : w.heap.size + 1 + 1 < w3.heap.size := by omega
  have f3 : w2.heap.size < w3.heap.size := by omega
  have f4 : w2.heap.size + 1 < w3.heap.size := by omega
  go_wp2_with fail
  refine (specZero n1 (h1 - h0) (l1 - l0) _).mono ?_
  rintro e w4 ⟨rfl, hB4⟩
  rw [hz]
  have hcr0 : w4.cell? ⟨w.heap.size + 1 + 1, 0, none⟩ = some (.bool false) := by rw [hB4.cell (by simp <;> omega)]; go_simp
  have hfr0 : w4.frozen? ⟨w.heap.size + 1 + 1, 0, none⟩ = false := by rw [hB4.frozen (by simp <;> omega)]; go_simp
  have hcr1 : w4.cell? ⟨w.heap.size + 1 + 1, 1, none⟩ = some (.int .u64 0) := by rw [hB4.cell (by simp <;> omega)]; go_simp
  have hfr1 : w4.frozen? ⟨w.heap.size + 1 + 1, 1, none⟩ = false := by rw [hB4.frozen (by simp <;> omega)]; go_simp
  have hcr2 : w4.cell? ⟨w.heap.size + 1 + 1, 2, none⟩ = some (.int .u64 0) := by rw [hB4.cell (by simp <;> omega)]; go_simp
  have hfr2 : w4.frozen? ⟨w.heap.size + 1 + 1, 2, none⟩ = false := by rw [hB4.frozen (by simp <;> omega)]; go_simp
  have hco0 : w4.cell? ⟨w3.heap.size, 0, none⟩ = some (.bool n1) := by rw [hB4.cell (by simp <;> omega)]; go_simp
  have hfo0 : w4.frozen? ⟨w3.heap.size, 0, none⟩ = false := by rw [hB4.frozen (by simp <;> omega)]; go_simp
  have hco1 : w4.cell? ⟨w3.heap.size, 1, none⟩ = some (.int .u64 (h1 - h0)) := by rw [hB4.cell (by simp <;> omega)]; go_simp
  have hfo1 : w4.frozen? ⟨w3.heap.size, 1, none⟩ = false := by rw [hB4.frozen (by simp <;> omega)]; go_simp
  have hco2 : w4.cell? ⟨w3.heap.size, 2, none⟩ = some (.int .u64 (l1 - l0)) := by rw [hB4.cell (by simp <;> omega)]; go_simp
  have hfo2 : w4.frozen? ⟨w3.heap.size, 2, none⟩ = false := by rw [hB4.frozen (by simp <;> omega)]; go_simp
  replace HB : Hid (Below w.heap.size w w4) := (((((((HB.out.setCell (by simp <;> omega) _).setCell (by simp <;> omega) _).setCell (by simp <;> omega) _).setCell (by simp <;> omega) _).setCell (by simp <;> omega) _).setCell (by simp <;> omega) _).alloc (by first | omega | (simp <;> omega)) _).trans (hB4.mono (by simp <;> omega))
  have f5 : w.heap.size ≤ w3.heap.size := by omega
  have f6 : w3.heap.size + 1 ≤ w4.heap.size := by have := hB4.size; simp at this; omega
  clear hB4
  go_wp2_with fail
  (try simp only [Exit.inBlock, Exit.then])
  refine bodyPost_ret (v := .tuple #[.agg #[.bool n1, .int .u64 (h1 - h0), .int .u64 (l1 - l0)], .bool true]) ?_ rfl ⟨fin, ?_⟩
  · rw [results_cell_tmp rfl]
    go_simp
  · repeat' (first | assumption | exact Below.refl _ _ | exact HB.out | refine Below.alloc ?_ (by simp <;> omega) _ | refine Below.setCell ?_ (by simp <;> omega) _)
set_option maxRecDepth 100000 in
set_option maxHeartbeats 1000000 in
theorem specAdd_diff_lt_b (n0 : Bool) (h0 l0 : Int) (n1 : Bool) (h1 l1 : Int) (hp0 : 0 ≤ h0) (hp1 : 0 ≤ h1)  (hk0 : okV n0 h0 l0 = true) (hk1 : okV n1 h1 l1 = true) (hq0 : h0 < 9223372036854775808) (hq1 : h1 < 9223372036854775808)  (hn : (n0 == n1) = false) (ho : ordV h0 l0 h1 l1 = -1) (hh : h0 + 1 ≤ h1) (hll : l1 < l0) (hwr : IntKind.u64.wrap (l1 - l0) = l1 - l0 + 18446744073709551616) (hz : decide (h1 - h0 - 1 = 0 ∧ l1 - l0 + 18446744073709551616 = 0) = false) (fin : Ending.returned (.tuple #[.agg #[.bool n1, .int .u64 (h1 - h0 - 1), .int .u64 (l1 - l0 + 18446744073709551616)], .bool true]) = addE n0 h0 l0 n1 h1 l1) (w : World) :
    Calls Tryd.prog 26 #[.agg #[.bool n0, .int .u64 h0, .int .u64 l0], .agg #[.bool n1, .int .u64 h1, .int .u64 l1]] w fun e w' => e = addE n0 h0 l0 n1 h1 l1 ∧ Below w.heap.size w w' := by
  go_enter Tryd.func26, Tryd.ntmps26
  go_wp2_with fail
  refine (specWideOk n0 h0 l0 _).mono ?_
  rintro e w1 ⟨rfl, hB⟩
  rw [hk0]
  have hca0 : w1.cell? ⟨w.heap.size, 0, none⟩ = some (.bool n0) := by rw [hB.cell (by simp <;> omega)]; go_simp
  have hfa0 : w1.frozen? ⟨w.heap.size, 0, none⟩ = false := by rw [hB.frozen (by simp <;> omega)]; go_simp
  have hca1 : w1.cell? ⟨w.heap.size, 1, none⟩ = some (.int .u64 h0) := by rw [hB.cell (by simp <;> omega)]; go_simp
  have hfa1 : w1.frozen? ⟨w.heap.size, 1, none⟩ = false := by rw [hB.frozen (by simp <;> omega)]; go_simp
  have hca2 : w1.cell? ⟨w.heap.size, 2, none⟩ = some (.int .u64 l0) := by rw [hB.cell (by simp <;> omega)]; go_simp
  have hfa2 : w1.frozen? ⟨w.heap.size, 2, none⟩ = false := by rw [hB.frozen (by simp <;> omega)]; go_simp
  have hcb0 : w1.cell? ⟨w.heap.size + 1, 0, none⟩ = some (.bool n1) := by rw [hB.cell (by simp <;> omega)]; go_simp
  have hfb0 : w1.frozen? ⟨w.heap.size + 1, 0, none⟩ = false := by rw [hB.frozen (by simp <;> omega)]; go_simp
  have hcb1 : w1.cell? ⟨w.heap.size + 1, 1, none⟩ = some (.int .u64 h1) := by rw [hB.cell (by simp <;> omega)]; go_simp
  have hfb1 : w1.frozen? ⟨w.heap.size + 1, 1, none⟩ = false := by rw [hB.frozen (by simp <;> omega)]; go_simp
  have hcb2 : w1.cell? ⟨w.heap.size + 1, 2, none⟩ = some (.int .u64 l1) := by rw [hB.cell (by simp <;> omega)]; go_simp
  have hfb2 : w1.frozen? ⟨w.heap.size + 1, 2, none⟩ = false := by rw [hB.frozen (by simp <;> omega)]; go_simp
  have hcr0 : w1.cell? ⟨w.heap.size + 1 + 1, 0, none⟩ = some (.bool false) := by rw [hB.cell (by simp <;> omega)]; go_simp
  have hfr0 : w1.frozen? ⟨w.heap.size + 1 + 1, 0, none⟩ = false := by rw [hB.frozen (by simp <;> omega)]; go_simp
  have hcr1 : w1.cell? ⟨w.heap.size + 1 + 1, 1, none⟩ = some (.int .u64 0) := by rw [hB.cell (by simp <;> omega)]; go_simp
  have hfr1 : w1.frozen? ⟨w.heap.size + 1 + 1, 1, none⟩ = false := by rw [hB.frozen (by simp <;> omega)]; go_simp
  have hcr2 : w1.cell? ⟨w.heap.size + 1 + 1, 2, none⟩ = some (.int .u64 0) := by rw [hB.cell (by simp <;> omega)]; go_simp
  have hfr2 : w1.frozen? ⟨w.heap.size + 1 + 1, 2, none⟩ = false := by rw [hB.frozen (by simp <;> omega)]; go_simp
  have HB : Hid (Below w.heap.size w w1) := ((((Below.refl _ _).alloc (Nat.le_refl _) _).alloc (by simp) _).alloc (by simp <;> omega) _).trans (hB.mono (by simp <;> omega))
  have hs : w.heap.size + 1 + 1 + 1 ≤ w1.heap.size := by have := hB.size; simpa using this
  clear hB
  go_wp2_with fail
  refine (specWideOk n1 h1 l1 _).mono ?_
  rintro e w2 ⟨rfl, hB2⟩
  rw [hk1]
  replace hca0 : w2.cell? ⟨w.heap.size, 0, none⟩ = some (.bool n0) := (hB2.cell (by simp <;> omega)).trans hca0
  replace hfa0 : w2.frozen? ⟨w.heap.size, 0, none⟩ = false := (hB2.frozen (by simp <;> omega)).trans hfa0
  replace hca1 : w2.cell? ⟨w.heap.size, 1, none⟩ = some (.int .u64 h0) := (hB2.cell (by simp <;> omega)).trans hca1
  replace hfa1 : w2.frozen? ⟨w.heap.size, 1, none⟩ = false := (hB2.frozen (by simp <;> omega)).trans hfa1
  replace hca2 : w2.cell? ⟨w.heap.size, 2, none⟩ = some (.int .u64 l0) := (hB2.cell (by simp <;> omega)).trans hca2
  replace hfa2 : w2.frozen? ⟨w.heap.size, 2, none⟩ = false := (hB2.frozen (by simp <;> omega)).trans hfa2
  replace hcb0 : w2.cell? ⟨w.heap.size + 1, 0, none⟩ = some (.bool n1) := (hB2.cell (by simp <;> omega)).trans hcb0
  replace hfb0 : w2.frozen? ⟨w.heap.size + 1, 0, none⟩ = false := (hB2.frozen (by simp <;> omega)).trans hfb0
  replace hcb1 : w2.cell? ⟨w.heap.size + 1, 1, none⟩ = some (.int .u64 h1) := (hB2.cell (by simp <;> omega)).trans hcb1
  replace hfb1 : w2.frozen? ⟨w.heap.size + 1, 1, none⟩ = false := (hB2.frozen (by simp <;> omega)).trans hfb1
  replace hcb2 : w2.cell? ⟨w.heap.size + 1, 2, none⟩ = some (.int .u64 l1) := (hB2.cell (by simp <;> omega)).trans hcb2
  replace hfb2 : w2.frozen? ⟨w.heap.size + 1, 2, none⟩ = false := (hB2.frozen (by simp <;> omega)).trans hfb2
  replace hcr0 : w2.cell? ⟨w.heap.size + 1 + 1, 0, none⟩ = some (.bool false) := (hB2.cell (by simp <;> omega)).trans hcr0
  replace hfr0 : w2.frozen? ⟨w.heap.size + 1 + 1, 0, none⟩ = false := (hB2.frozen (by simp <;> omega)).trans hfr0
  replace hcr1 : w2.cell? ⟨w.heap.size + 1 + 1, 1, none⟩ = some (.int .u64 0) := (hB2.cell (by simp <;> omega)).trans hcr1
  replace hfr1 : w2.frozen? ⟨w.heap.size + 1 + 1, 1, none⟩ = false := (hB2.frozen (by simp <;> omega)).trans hfr1
  replace hcr2 : w2.cell? ⟨w.heap.size + 1 + 1, 2, none⟩ = some (.int .u64 0) := (hB2.cell (by simp <;> omega)).trans hcr2
  replace hfr2 : w2.frozen? ⟨w.heap.size + 1 + 1, 2, none⟩ = false := (hB2.frozen (by simp <;> omega)).trans hfr2
  replace HB : Hid (Below w.heap.size w w2) := HB.out.trans (hB2.mono (by omega))
  replace hs : w.heap.size + 1 + 1 + 1 ≤ w2.heap.size := Nat.le_trans hs hB2.size
  clear hB2
  have hs0 : w.heap.size < w2.heap.size := by omega
  have hs1 : w.heap.size + 1 < w2.heap.size := by omega
  have hs2 : w.heap.size + 1 + 1 < w2.heap.size := by omega
  go_wp2_with fail
  refine (specOrder n0 h0 l0 n1 h1 l1 _).mono ?_
  rintro e w3 ⟨rfl, hB3⟩
  rw [ho]
  have hca0 : w3.cell? ⟨w.heap.size, 0, none⟩ = some (.bool n0) := by rw [hB3.cell (by simp <;> omega)]; go_simp
  have hfa0 : w3.frozen? ⟨w.heap.size, 0, none⟩ = false := by rw [hB3.frozen (by simp <;> omega)]; go_simp
  have hca1 : w3.cell? ⟨w.heap.size, 1, none⟩ = some (.int .u64 h0) := by rw [hB3.cell (by simp <;> omega)]; go_simp
  have hfa1 : w3.frozen? ⟨w.heap.size, 1, none⟩ = false := by rw [hB3.frozen (by simp <;> omega)]; go_simp
  have hca2 : w3.cell? ⟨w.heap.size, 2, none⟩ = some (.int .u64 l0) := by rw [hB3.cell (by simp <;> omega)]; go_simp
  have hfa2 : w3.frozen? ⟨w.heap.size, 2, none⟩ = false := by rw [hB3.frozen (by simp <;> omega)]; go_simp
  have hcb0 : w3.cell? ⟨w.heap.size + 1, 0, none⟩ = some (.bool n1) := by rw [hB3.cell (by simp <;> omega)]; go_simp
  have hfb0 : w3.frozen? ⟨w.heap.size + 1, 0, none⟩ = false := by rw [hB3.frozen (by simp <;> omega)]; go_simp
  have hcb1 : w3.cell? ⟨w.heap.size + 1, 1, none⟩ = some (.int .u64 h1) := by rw [hB3.cell (by simp <;> omega)]; go_simp
  have hfb1 : w3.frozen? ⟨w.heap.size + 1, 1, none⟩ = false := by rw [hB3.frozen (by simp <;> omega)]; go_simp
  have hcb2 : w3.cell? ⟨w.heap.size + 1, 2, none⟩ = some (.int .u64 l1) := by rw [hB3.cell (by simp <;> omega)]; go_simp
  have hfb2 : w3.frozen? ⟨w.heap.size + 1, 2, none⟩ = false := by rw [hB3.frozen (by simp <;> omega)]; go_simp
  have hcr0 : w3.cell? ⟨w.heap.size + 1 + 1, 0, none⟩ = some (.bool false) := by rw [hB3.cell (by simp <;> omega)]; go_simp
  have hfr0 : w3.frozen? ⟨w.heap.size + 1 + 1, 0, none⟩ = false := by rw [hB3.frozen (by simp <;> omega)]; go_simp
  have hcr1 : w3.cell? ⟨w.heap.size + 1 + 1, 1, none⟩ = some (.int .u64 0) := by rw [hB3.cell (by simp <;> omega)]; go_simp
  have hfr1 : w3.frozen? ⟨w.heap.size + 1 + 1, 1, none⟩ = false := by rw [hB3.frozen (by simp <;> omega)]; go_simp
  have hcr2 : w3.cell? ⟨w.heap.size + 1 + 1, 2, none⟩ = some (.int .u64 0) := by rw [hB3.cell (by simp <;> omega)]; go_simp
  have hfr2 : w3.frozen? ⟨w.heap.size + 1 + 1, 2, none⟩ = false := by rw [hB3.frozen (by simp <;> omega)]; go_simp
  have hcx0 : w3.cell? ⟨w2.heap.size, 0, none⟩ = some (.bool n0) := by rw [hB3.cell (by simp <;> omega)]; go_simp
  have hfx0 : w3.frozen? ⟨w2.heap.size, 0, none⟩ = false := by rw [hB3.frozen (by simp <;> omega)]; go_simp
  have hcx1 : w3.cell? ⟨w2.heap.size, 1, none⟩ = some (.int .u64 h0) := by rw [hB3.cell (by simp <;> omega)]; go_simp
  have hfx1 : w3.frozen? ⟨w2.heap.size, 1, none⟩ = false := by rw [hB3.frozen (by simp <;> omega)]; go_simp
  have hcx2 : w3.cell? ⟨w2.heap.size, 2, none⟩ = some (.int .u64 l0) := by rw [hB3.cell (by simp <;> omega)]; go_simp
  have hfx2 : w3.frozen? ⟨w2.heap.size, 2, none⟩ = false := by rw [hB3.frozen (by simp <;> omega)]; go_simp
  have hcy0 : w3.cell? ⟨w2.heap.size + 1, 0, none⟩ = some (.bool n1) := by rw [hB3.cell (by simp <;> omega)]; go_simp
  have hfy0 : w3.frozen? ⟨w2.heap.size + 1, 0, none⟩ = false := by rw [hB3.frozen (by simp <;> omega)]; go_simp
  have hcy1 : w3.cell? ⟨w2.heap.size + 1, 1, none⟩ = some (.int .u64 h1) := by rw [hB3.cell (by simp <;> omega)]; go_simp
  have hfy1 : w3.frozen? ⟨w2.heap.size + 1, 1, none⟩ = false := by rw [hB3.frozen (by simp <;> omega)]; go_simp
  have hcy2 : w3.cell? ⟨w2.heap.size + 1, 2, none⟩ = some (.int .u64 l1) := by rw [hB3.cell (by simp <;> omega)]; go_simp
  have hfy2 : w3.frozen? ⟨w2.heap.size + 1, 2, none⟩ = false := by rw [hB3.frozen (by simp <;> omega)]; go_simp
  replace HB : Hid (Below w.heap.size w w3) := ((HB.out.alloc (by omega) _).alloc (by simp <;> omega) _).trans (hB3.mono (by simp <;> omega))
  have hs3 : w2.heap.size + 1 + 1 ≤ w3.heap.size := by have := hB3.size; simp at this; omega
  clear hB3
  have e0 : ¬ (w.heap.size = w2.heap.size) := by omega
  have e1 : ¬ (w.heap.size + 1 = w2.heap.size) := by omega
  have e2 : ¬ (w.heap.size + 1 + 1 = w2.heap.size) := by omega
  have e0' : ¬ (w.heap.size = w2.heap.size + 1) := by omega
  have e1' : ¬ (w.heap.size = w2.heap.size) := by omega
  have e2' : ¬ (w.heap.size + 1 = w2.heap.size) := by omega
  have f0 : w.heap.size < w3.heap.size := by omega
  have f1 : w.heap.size + 1 < w3.heap.size := by omega
  have f2 : w.heap.size + 1 + 1 < w3.heap.size := by omega
  have f3 : w2.heap.size < w3.heap.size := by omega
  have f4 : w2.heap.size + 1 < w3.heap.size := by omega
  go_wp2_with fail
  refine (specZero n1 (h1 - h0 - 1) (l1 - l0 + 18446744073709551616) _).mono ?_
  rintro e w4 ⟨rfl, hB4⟩
  rw [hz]
  have hcr0 : w4.cell? ⟨w.heap.size + 1 + 1, 0, none⟩ = some (.bool false) := by rw [hB4.cell (by simp <;> omega)]; go_simp
  have hfr0 : w4.frozen? ⟨w.heap.size + 1 + 1, 0, none⟩ = false := by rw [hB4.frozen (by simp <;> omega)]; go_simp
  have hcr1 : w4.cell? ⟨w.heap.size + 1 + 1, 1, none⟩ = some (.int .u64 0) := by rw [hB4.cell (by simp <;> omega)]; go_simp
  have hfr1 : w4.frozen? ⟨w.heap.size + 1 + 1, 1, none⟩ = false := by rw [hB4.frozen (by simp <;> omega)]; go_simp
  have hcr2 : w4.cell? ⟨w.heap.size + 1 + 1, 2, none⟩ = some (.int .u64 0) := by rw [hB4.cell (by simp <;> omega)]; go_simp
  have hfr2 : w4.frozen? ⟨w.heap.size + 1 + 1, 2, none⟩ = false := by rw [hB4.frozen (by simp <;> omega)]; go_simp
  have hco0 : w4.cell? ⟨w3.heap.size, 0, none⟩ = some (.bool n1) := by rw [hB4.cell (by simp <;> omega)]; go_simp
  have hfo0 : w4.frozen? ⟨w3.heap.size, 0, none⟩ = false := by rw [hB4.frozen (by simp <;> omega)]; go_simp
  have hco1 : w4.cell? ⟨w3.heap.size, 1, none⟩ = some (.int .u64 (h1 - h0 - 1)) := by rw [hB4.cell (by simp <;> omega)]; go_simp
  have hfo1 : w4.frozen? ⟨w3.heap.size, 1, none⟩ = false := by rw [hB4.frozen (by simp <;> omega)]; go_simp
  have hco2 : w4.cell? ⟨w3.heap.size, 2, none⟩ = some (.int .u64 (l1 - l0 + 18446744073709551616)) := by rw [hB4.cell (by simp <;> omega)]; go_simp
  have hfo2 : w4.frozen? ⟨w3.heap.size, 2, none⟩ = false := by rw [hB4.frozen (by simp <;> omega)]; go_simp
  replace HB : Hid (Below w.heap.size w w4) := (((((((HB.out.setCell (by simp <;> omega) _).setCell (by simp <;> omega) _).setCell (by simp <;> omega) _).setCell (by simp <;> omega) _).setCell (by simp <;> omega) _).setCell (by simp <;> omega) _).alloc (by first | omega | (simp <;> omega)) _).trans (hB4.mono (by simp <;> omega))
  have f5 : w.heap.size ≤ w3.heap.size := by omega
  have f6 : w3.heap.size + 1 ≤ w4.heap.size := by have := hB4.size; simp at this; omega
  clear hB4
  go_wp2_with fail
  (try simp only [Exit.inBlock, Exit.then])
  refine bodyPost_ret (v := .tuple #[.agg #[.bool n1, .int .u64 (h1 - h0 - 1), .int .u64 (l1 - l0 + 18446744073709551616)], .bool true]) ?_ rfl ⟨fin, ?_⟩
  · rw [results_cell_tmp rfl]
    go_simp
  · repeat' (first | assumption | exact Below.refl _ _ | exact HB.out | refine Below.alloc ?_ (by simp <;> omega) _ | refine Below.setCell ?_ (by simp <;> omega) _)
set_option maxRecDepth 100000 in
set_option maxHeartbeats 1000000 in
theorem specAdd_diff_ge_nb (n0 : Bool) (h0 l0 : Int) (n1 : Bool) (h1 l1 : Int) (hp0 : 0 ≤ h0) (hp1 : 0 ≤ h1) (lp0 : 0 ≤ l0) (lq0 : l0 < 18446744073709551616) (lp1 : 0 ≤ l1) (lq1 : l1 < 18446744073709551616) (hk0 : okV n0 h0 l0 = true) (hk1 : okV n1 h1 l1 = true) (hq0 : h0 < 9223372036854775808) (hq1 : h1 < 9223372036854775808)  (hn : (n0 == n1) = false) (v : Int) (hv : ¬ v < 0) (ho : ordV h0 l0 h1 l1 = v) (hh : h1 ≤ h0) (hll : l1 ≤ l0) (hz : decide (h0 - h1 = 0 ∧ l0 - l1 = 0) = false) (fin : Ending.returned (.tuple #[.agg #[.bool n0, .int .u64 (h0 - h1), .int .u64 (l0 - l1)], .bool true]) = addE n0 h0 l0 n1 h1 l1) (w : World) :
    Calls Tryd.prog 26 #[.agg #[.bool n0, .int .u64 h0, .int .u64 l0], .agg #[.bool n1, .int .u64 h1, .int .u64 l1]] w fun e w' => e = addE n0 h0 l0 n1 h1 l1 ∧ Below w.heap.size w w' := by
  go_enter Tryd.func26, Tryd.ntmps26
  go_wp2_with fail
  refine (specWideOk n0 h0 l0 _).mono ?_
  rintro e w1 ⟨rfl, hB⟩
  rw [hk0]
  have hca0 : w1.cell? ⟨w.heap.size, 0, none⟩ = some (.bool n0) := by rw [hB.cell (by simp <;> omega)]; go_simp
  have hfa0 : w1.frozen? ⟨w.heap.size, 0, none⟩ = false := by rw [hB.frozen (by simp <;> omega)]; go_simp
  have hca1 : w1.cell? ⟨w.heap.size, 1, none⟩ = some (.int .u64 h0) := by rw [hB.cell (by simp <;> omega)]; go_simp
  have hfa1 : w1.frozen? ⟨w.heap.size, 1, none⟩ = false := by rw [hB.frozen (by simp <;> omega)]; go_simp
  have hca2 : w1.cell? ⟨w.heap.size, 2, none⟩ = some (.int .u64 l0) := by rw [hB.cell (by simp <;> omega)]; go_simp
  have hfa2 : w1.frozen? ⟨w.heap.size, 2, none⟩ = false := by rw [hB.frozen (by simp <;> omega)]; go_simp
  have hcb0 : w1.cell? ⟨w.heap.size + 1, 0, none⟩ = some (.bool n1) := by rw [hB.cell (by simp <;> omega)]; go_simp
  have hfb0 : w1.frozen? ⟨w.heap.size + 1, 0, none⟩ = false := by rw [hB.frozen (by simp <;> omega)]; go_simp
  have hcb1 : w1.cell? ⟨w.heap.size + 1, 1, none⟩ = some (.int .u64 h1) := by rw [hB.cell (by simp <;> omega)]; go_simp
  have hfb1 : w1.frozen? ⟨w.heap.size + 1, 1, none⟩ = false := by rw [hB.frozen (by simp <;> omega)]; go_simp
  have hcb2 : w1.cell? ⟨w.heap.size + 1, 2, none⟩ = some (.int .u64 l1) := by rw [hB.cell (by simp <;> omega)]; go_simp
  have hfb2 : w1.frozen? ⟨w.heap.size + 1, 2, none⟩ = false := by rw [hB.frozen (by simp <;> omega)]; go_simp
  have hcr0 : w1.cell? ⟨w.heap.size + 1 + 1, 0, none⟩ = some (.bool false) := by rw [hB.cell (by simp <;> omega)]; go_simp
  have hfr0 : w1.frozen? ⟨w.heap.size + 1 + 1, 0, none⟩ = false := by rw [hB.frozen (by simp <;> omega)]; go_simp
  have hcr1 : w1.cell? ⟨w.heap.size + 1 + 1, 1, none⟩ = some (.int .u64 0) := by rw [hB.cell (by simp <;> omega)]; go_simp
  have hfr1 : w1.frozen? ⟨w.heap.size + 1 + 1, 1, none⟩ = false := by rw [hB.frozen (by simp <;> omega)]; go_simp
  have hcr2 : w1.cell? ⟨w.heap.size + 1 + 1, 2, none⟩ = some (.int .u64 0) := by rw [hB.cell (by simp <;> omega)]; go_simp
  have hfr2 : w1.frozen? ⟨w.heap.size + 1 + 1, 2, none⟩ = false := by rw [hB.frozen (by simp <;> omega)]; go_simp
  have HB : Hid (Below w.heap.size w w1) := ((((Below.refl _ _).alloc (Nat.le_refl _) _).alloc (by simp) _).alloc (by simp <;> omega) _).trans (hB.mono (by simp <;> omega))
  have hs : w.heap.size + 1 + 1 + 1 ≤ w1.heap.size := by have := hB.size; simpa using this
  clear hB
  go_wp2_with fail
  refine (specWideOk n1 h1 l1 _).mono ?_
  rintro e w2 ⟨rfl, hB2⟩
  rw [hk1]
  replace hca0 : w2.cell? ⟨w.heap.size, 0, none⟩ = some (.bool n0) := (hB2.cell (by simp <;> omega)).trans hca0
  replace hfa0 : w2.frozen? ⟨w.heap.size, 0, none⟩ = false := (hB2.frozen (by simp <;> omega)).trans hfa0
  replace hca1 : w2.cell? ⟨w.heap.size, 1, none⟩ = some (.int .u64 h0) := (hB2.cell (by simp <;> omega)).trans hca1
  replace hfa1 : w2.frozen? ⟨w.heap.size, 1, none⟩ = false := (hB2.frozen (by simp <;> omega)).trans hfa1
  replace hca2 : w2.cell? ⟨w.heap.size, 2, none⟩ = some (.int .u64 l0) := (hB2.cell (by simp <;> omega)).trans hca2
  replace hfa2 : w2.frozen? ⟨w.heap.size, 2, none⟩ = false := (hB2.frozen (by simp <;> omega)).trans hfa2
  replace hcb0 : w2.cell? ⟨w.heap.size + 1, 0, none⟩ = some (.bool n1) := (hB2.cell (by simp <;> omega)).trans hcb0
  replace hfb0 : w2.frozen? ⟨w.heap.size + 1, 0, none⟩ = false := (hB2.frozen (by simp <;> omega)).trans hfb0
  replace hcb1 : w2.cell? ⟨w.heap.size + 1, 1, none⟩ = some (.int .u64 h1) := (hB2.cell (by simp <;> omega)).trans hcb1
  replace hfb1 : w2.frozen? ⟨w.heap.size + 1, 1, none⟩ = false := (hB2.frozen (by simp <;> omega)).trans hfb1
  replace hcb2 : w2.cell? ⟨w.heap.size + 1, 2, none⟩ = some (.int .u64 l1) := (hB2.cell (by simp <;> omega)).trans hcb2
  replace hfb2 : w2.frozen? ⟨w.heap.size + 1, 2, none⟩ = false := (hB2.frozen (by simp <;> omega)).trans hfb2
  replace hcr0 : w2.cell? ⟨w.heap.size + 1 + 1, 0, none⟩ = some (.bool false) := (hB2.cell (by simp <;> omega)).trans hcr0
  replace hfr0 : w2.frozen? ⟨w.heap.size + 1 + 1, 0, none⟩ = false := (hB2.frozen (by simp <;> omega)).trans hfr0
  replace hcr1 : w2.cell? ⟨w.heap.size + 1 + 1, 1, none⟩ = some (.int .u64 0) := (hB2.cell (by simp <;> omega)).trans hcr1
  replace hfr1 : w2.frozen? ⟨w.heap.size + 1 + 1, 1, none⟩ = false := (hB2.frozen (by simp <;> omega)).trans hfr1
  replace hcr2 : w2.cell? ⟨w.heap.size + 1 + 1, 2, none⟩ = some (.int .u64 0) := (hB2.cell (by simp <;> omega)).trans hcr2
  replace hfr2 : w2.frozen? ⟨w.heap.size + 1 + 1, 2, none⟩ = false := (hB2.frozen (by simp <;> omega)).trans hfr2
  replace HB : Hid (Below w.heap.size w w2) := HB.out.trans (hB2.mono (by omega))
  replace hs : w.heap.size + 1 + 1 + 1 ≤ w2.heap.size := Nat.le_trans hs hB2.size
  clear hB2
  have hs0 : w.heap.size < w2.heap.size := by omega
  have hs1 : w.heap.size + 1 < w2.heap.size := by omega
  have hs2 : w.heap.size + 1 + 1 < w2.heap.size := by omega
  go_wp2_with fail
  refine (specOrder n0 h0 l0 n1 h1 l1 _).mono ?_
  rintro e w3 ⟨rfl, hB3⟩
  rw [ho]
  have hca0 : w3.cell? ⟨w.heap.size, 0, none⟩ = some (.bool n0) := by rw [hB3.cell (by simp <;> omega)]; go_simp
  have hfa0 : w3.frozen? ⟨w.heap.size, 0, none⟩ = false := by rw [hB3.frozen (by simp <;> omega)]; go_simp
  have hca1 : w3.cell? ⟨w.heap.size, 1, none⟩ = some (.int .u64 h0) := by rw [hB3.cell (by simp <;> omega)]; go_simp
  have hfa1 : w3.frozen? ⟨w.heap.size, 1, none⟩ = false := by rw [hB3.frozen (by simp <;> omega)]; go_simp
  have hca2 : w3.cell? ⟨w.heap.size, 2, none⟩ = some (.int .u64 l0) := by rw [hB3.cell (by simp <;> omega)]; go_simp
  have hfa2 : w3.frozen? ⟨w.heap.size, 2, none⟩ = false := by rw [hB3.frozen (by simp <;> omega)]; go_simp
  have hcb0 : w3.cell? ⟨w.heap.size + 1, 0, none⟩ = some (.bool n1) := by rw [hB3.cell (by simp <;> omega)]; go_simp
  have hfb0 : w3.frozen? ⟨w.heap.size + 1, 0, none⟩ = false := by rw [hB3.frozen (by simp <;> omega)]; go_simp
  have hcb1 : w3.cell? ⟨w.heap.size + 1, 1, none⟩ = some (.int .u64 h1) := by rw [hB3.cell (by simp <;> omega)]; go_simp
  have hfb1 : w3.frozen? ⟨w.heap.size + 1, 1, none⟩ = false := by rw [hB3.frozen (by simp <;> omega)]; go_simp
  have hcb2 : w3.cell? ⟨w.heap.size + 1, 2, none⟩ = some (.int .u64 l1) := by rw [hB3.cell (by simp <;> omega)]; go_simp
  have hfb2 : w3.frozen? ⟨w.heap.size + 1, 2, none⟩ = false := by rw [hB3.frozen (by simp <;> omega)]; go_simp
  have hcr0 : w3.cell? ⟨w.heap.size + 1 + 1, 0, none⟩ = some (.bool false) := by rw [hB3.cell (by simp <;> omega)]; go_simp
  have hfr0 : w3.frozen? ⟨w.heap.size + 1 + 1, 0, none⟩ = false := by rw [hB3.frozen (by simp <;> omega)]; go_simp
  have hcr1 : w3.cell? ⟨w.heap.size + 1 + 1, 1, none⟩ = some (.int .u64 0) := by rw [hB3.cell (by simp <;> omega)]; go_simp
  have hfr1 : w3.frozen? ⟨w.heap.size + 1 + 1, 1, none⟩ = false := by rw [hB3.frozen (by simp <;> omega)]; go_simp
  have hcr2 : w3.cell? ⟨w.heap.size + 1 + 1, 2, none⟩ = some (.int .u64 0) := by rw [hB3.cell (by simp <;> omega)]; go_simp
  have hfr2 : w3.frozen? ⟨w.heap.size + 1 + 1, 2, none⟩ = false := by rw [hB3.frozen (by simp <;> omega)]; go_simp
  have hcx0 : w3.cell? ⟨w2.heap.size, 0, none⟩ = some (.bool n0) := by rw [hB3.cell (by simp <;> omega)]; go_simp
  have hfx0 : w3.frozen? ⟨w2.heap.size, 0, none⟩ = false := by rw [hB3.frozen (by simp <;> omega)]; go_simp
  have hcx1 : w3.cell? ⟨w2.heap.size, 1, none⟩ = some (.int .u64 h0) := by rw [hB3.cell (by simp <;> omega)]; go_simp
  have hfx1 : w3.frozen? ⟨w2.heap.size, 1, none⟩ = false := by rw [hB3.frozen (by simp <;> omega)]; go_simp
  have hcx2 : w3.cell? ⟨w2.heap.size, 2, none⟩ = some (.int .u64 l0) := by rw [hB3.cell (by simp <;> omega)]; go_simp
  have hfx2 : w3.frozen? ⟨w2.heap.size, 2, none⟩ = false := by rw [hB3.frozen (by simp <;> omega)]; go_simp
  have hcy0 : w3.cell? ⟨w2.heap.size + 1, 0, none⟩ = some (.bool n1) := by rw [hB3.cell (by simp <;> omega)]; go_simp
  have hfy0 : w3.frozen? ⟨w2.heap.size + 1, 0, none⟩ = false := by rw [hB3.frozen (by simp <;> omega)]; go_simp
  have hcy1 : w3.cell? ⟨w2.heap.size + 1, 1, none⟩ = some (.int .u64 h1) := by rw [hB3.cell (by simp <;> omega)]; go_simp
  have hfy1 : w3.frozen? ⟨w2.heap.size + 1, 1, none⟩ = false := by rw [hB3.frozen (by simp <;> omega)]; go_simp
  have hcy2 : w3.cell? ⟨w2.heap.size + 1, 2, none⟩ = some (.int .u64 l1) := by rw [hB3.cell (by simp <;> omega)]; go_simp
  have hfy2 : w3.frozen? ⟨w2.heap.size + 1, 2, none⟩ = false := by rw [hB3.frozen (by simp <;> omega)]; go_simp
  replace HB : Hid (Below w.heap.size w w3) := ((HB.out.alloc (by omega) _).alloc (by simp <;> omega) _).trans (hB3.mono (by simp <;> omega))
  have hs3 : w2.heap.size + 1 + 1 ≤ w3.heap.size := by have := hB3.size; simp at this; omega
  clear hB3
  have e0 : ¬ (w.heap.size = w2.heap.size) := by omega
  have e1 : ¬ (w.heap.size + 1 = w2.heap.size) := by omega
  have e2 : ¬ (w.heap.size + 1 + 1 = w2.heap.size) := by omega
  have e0' : ¬ (w.heap.size = w2.heap.size + 1) := by omega
  have e1' : ¬ (w.heap.size = w2.heap.size) := by omega
  have e2' : ¬ (w.heap.size + 1 = w2.heap.size) := by omega
  have f0 : w.heap.size < w3.heap.size := by omega
  have f1 : w.heap.size + 1 < w3.heap.size := by omega
  have f2 : w.heap.size + 1 + 1 < w3.heap.size := by omega
  have f3 : w2.heap.size < w3.heap.size := by omega
  have f4 : w2.heap.size + 1 < w3.heap.size := by omega
  go_wp2_with fail
  refine (specZero n0 (h0 - h1) (l0 - l1) _).mono ?_
  rintro e w4 ⟨rfl, hB4⟩
  rw [hz]
  have hcr0 : w4.cell? ⟨w.heap.size + 1 + 1, 0, none⟩ = some (.bool false) := by rw [hB4.cell (by simp <;> omega)]; go_simp
  have hfr0 : w4.frozen? ⟨w.heap.size + 1 + 1, 0, none⟩ = false := by rw [hB4.frozen (by simp <;> omega)]; go_simp
  have hcr1 : w4.cell? ⟨w.heap.size + 1 + 1, 1, none⟩ = some (.int .u64 0) := by rw [hB4.cell (by simp <;> omega)]; go_simp
  have hfr1 : w4.frozen? ⟨w.heap.size + 1 + 1, 1, none⟩ = false := by rw [hB4.frozen (by simp <;> omega)]; go_simp
  have hcr2 : w4.cell? ⟨w.heap.size + 1 + 1, 2, none⟩ = some (.int .u64 0) := by rw [hB4.cell (by simp <;> omega)]; go_simp
  have hfr2 : w4.frozen? ⟨w.heap.size + 1 + 1, 2, none⟩ = false := by rw [hB4.frozen (by simp <;> omega)]; go_simp
  have hco0 : w4.cell? ⟨w3.heap.size, 0, none⟩ = some (.bool n0) := by rw [hB4.cell (by simp <;> omega)]; go_simp
  have hfo0 : w4.frozen? ⟨w3.heap.size, 0, none⟩ = false := by rw [hB4.frozen (by simp <;> omega)]; go_simp
  have hco1 : w4.cell? ⟨w3.heap.size, 1, none⟩ = some (.int .u64 (h0 - h1)) := by rw [hB4.cell (by simp <;> omega)]; go_simp
  have hfo1 : w4.frozen? ⟨w3.heap.size, 1, none⟩ = false := by rw [hB4.frozen (by simp <;> omega)]; go_simp
  have hco2 : w4.cell? ⟨w3.heap.size, 2, none⟩ = some (.int .u64 (l0 - l1)) := by rw [hB4.cell (by simp <;> omega)]; go_simp
  have hfo2 : w4.frozen? ⟨w3.heap.size, 2, none⟩ = false := by rw [hB4.frozen (by simp <;> omega)]; go_simp
  replace HB : Hid (Below w.heap.size w w4) := (HB.out.alloc (by first | omega | (simp <;> omega)) _).trans (hB4.mono (by simp <;> omega))
  have f5 : w.heap.size ≤ w3.heap.size := by omega
  have f6 : w3.heap.size + 1 ≤ w4.heap.size := by have := hB4.size; simp at this; omega
  clear hB4
  go_wp2_with fail
  (try simp only [Exit.inBlock, Exit.then])
  refine bodyPost_ret (v := .tuple #[.agg #[.bool n0, .int .u64 (h0 - h1), .int .u64 (l0 - l1)], .bool true]) ?_ rfl ⟨fin, ?_⟩
  · rw [results_cell_tmp rfl]
    go_simp
  · repeat' (first | assumption | exact Below.refl _ _ | exact HB.out | refine Below.alloc ?_ (by simp <;> omega) _ | refine Below.setCell ?_ (by simp <;> omega) _)
set_option maxRecDepth 100000 in
set_option maxHeartbeats 1000000 in
theorem specAdd_diff_ge_z (n0 : Bool) (h0 l0 : Int) (n1 : Bool) (h1 l1 : Int) (hp0 : 0 ≤ h0) (hp1 : 0 ≤ h1) (lp0 : 0 ≤ l0) (lq0 : l0 < 18446744073709551616) (lp1 : 0 ≤ l1) (lq1 : l1 < 18446744073709551616) (hk0 : okV n0 h0 l0 = true) (hk1 : okV n1 h1 l1 = true) (hq0 : h0 < 9223372036854775808) (hq1 : h1 < 9223372036854775808)  (hn : (n0 == n1) = false) (v : Int) (hv : ¬ v < 0) (ho : ordV h0 l0 h1 l1 = v) (hh : h1 ≤ h0) (hll : l1 ≤ l0) (hz : decide (h0 - h1 = 0 ∧ l0 - l1 = 0) = true) (fin : Ending.returned (.tuple #[.agg #[.bool false, .int .u64 (h0 - h1), .int .u64 (l0 - l1)], .bool true]) = addE n0 h0 l0 n1 h1 l1) (w : World) :
    Calls Tryd.prog 26 #[.agg #[.bool n0, .int .u64 h0, .int .u64 l0], .agg #[.bool n1, .int .u64 h1, .int .u64 l1]] w fun e w' => e = addE n0 h0 l0 n1 h1 l1 ∧ Below w.heap.size w w' := by
  go_enter Tryd.func26, Tryd.ntmps26
  go_wp2_with fail
  refine (specWideOk n0 h0 l0 _).mono ?_
  rintro e w1 ⟨rfl, hB⟩
  rw [hk0]
  have hca0 : w1.cell? ⟨w.heap.size, 0, none⟩ = some (.bool n0) := by rw [hB.cell (by simp <;> omega)]; go_simp
  have hfa0 : w1.frozen? ⟨w.heap.size, 0, none⟩ = false := by rw [hB.frozen (by simp <;> omega)]; go_simp
  have hca1 : w1.cell? ⟨w.heap.size, 1, none⟩ = some (.int .u64 h0) := by rw [hB.cell (by simp <;> omega)]; go_simp
  have hfa1 : w1.frozen? ⟨w.heap.size, 1, none⟩ = false := by rw [hB.frozen (by simp <;> omega)]; go_simp
  have hca2 : w1.cell? ⟨w.heap.size, 2, none⟩ = some (.int .u64 l0) := by rw [hB.cell (by simp <;> omega)]; go_simp
  have hfa2 : w1.frozen? ⟨w.heap.size, 2, none⟩ = false := by rw [hB.frozen (by simp <;> omega)]; go_simp
  have hcb0 : w1.cell? ⟨w.heap.size + 1, 0, none⟩ = some (.bool n1) := by rw [hB.cell (by simp <;> omega)]; go_simp
  have hfb0 : w1.frozen? ⟨w.heap.size + 1, 0, none⟩ = false := by rw [hB.frozen (by simp <;> omega)]; go_simp
  have hcb1 : w1.cell? ⟨w.heap.size + 1, 1, none⟩ = some (.int .u64 h1) := by rw [hB.cell (by simp <;> omega)]; go_simp
  have hfb1 : w1.frozen? ⟨w.heap.size + 1, 1, none⟩ = false := by rw [hB.frozen (by simp <;> omega)]; go_simp
  have hcb2 : w1.cell? ⟨w.heap.size + 1, 2, none⟩ = some (.int .u64 l1) := by rw [hB.cell (by simp <;> omega)]; go_simp
  have hfb2 : w1.frozen? ⟨w.heap.size + 1, 2, none⟩ = false := by rw [hB.frozen (by simp <;> omega)]; go_simp
  have hcr0 : w1.cell? ⟨w.heap.size + 1 + 1, 0, none⟩ = some (.bool false) := by rw [hB.cell (by simp <;> omega)]; go_simp
  have hfr0 : w1.frozen? ⟨w.heap.size + 1 + 1, 0, none⟩ = false := by rw [hB.frozen (by simp <;> omega)]; go_simp
  have hcr1 : w1.cell? ⟨w.heap.size + 1 + 1, 1, none⟩ = some (.int .u64 0) := by rw [hB.cell (by simp <;> omega)]; go_simp
  have hfr1 : w1.frozen? ⟨w.heap.size + 1 + 1, 1, none⟩ = false := by rw [hB.frozen (by simp <;> omega)]; go_simp
  have hcr2 : w1.cell? ⟨w.heap.size + 1 + 1, 2, none⟩ = some (.int .u64 0) := by rw [hB.cell (by simp <;> omega)]; go_simp
  have hfr2 : w1.frozen? ⟨w.heap.size + 1 + 1, 2, none⟩ = false := by rw [hB.frozen (by simp <;> omega)]; go_simp
  have HB : Hid (Below w.heap.size w w1) := ((((Below.refl _ _).alloc (Nat.le_refl _) _).alloc (by simp) _).alloc (by simp <;> omega) _).trans (hB.mono (by simp <;> omega))
  have hs : w.heap.size + 1 + 1 + 1 ≤ w1.heap.size := by have := hB.size; simpa using this
  clear hB
  go_wp2_with fail
  refine (specWideOk n1 h1 l1 _).mono ?_
  rintro e w2 ⟨rfl, hB2⟩
  rw [hk1]
  replace hca0 : w2.cell? ⟨w.heap.size, 0, none⟩ = some (.bool n0) := (hB2.cell (by simp <;> omega)).trans hca0
  replace hfa0 : w2.frozen? ⟨w.heap.size, 0, none⟩ = false := (hB2.frozen (by simp <;> omega)).trans hfa0
  replace hca1 : w2.cell? ⟨w.heap.size, 1, none⟩ = some (.int .u64 h0) := (hB2.cell (by simp <;> omega)).trans hca1
  replace hfa1 : w2.frozen? ⟨w.heap.size, 1, none⟩ = false := (hB2.frozen (by simp <;> omega)).trans hfa1
  replace hca2 : w2.cell? ⟨w.heap.size, 2, none⟩ = some (.int .u64 l0) := (hB2.cell (by simp <;> omega)).trans hca2
  replace hfa2 : w2.frozen? ⟨w.heap.size, 2, none⟩ = false := (hB2.frozen (by simp <;> omega)).trans hfa2
  replace hcb0 : w2.cell? ⟨w.heap.size + 1, 0, none⟩ = some (.bool n1) := (hB2.cell (by simp <;> omega)).trans hcb0
  replace hfb0 : w2.frozen? ⟨w.heap.size + 1, 0, none⟩ = false := (hB2.frozen (by simp <;> omega)).trans hfb0
  replace hcb1 : w2.cell? ⟨w.heap.size + 1, 1, none⟩ = some (.int .u64 h1) := (hB2.cell (by simp <;> omega)).trans hcb1
  replace hfb1 : w2.frozen? ⟨w.heap.size + 1, 1, none⟩ = false := (hB2.frozen (by simp <;> omega)).trans hfb1
  replace hcb2 : w2.cell? ⟨w.heap.size + 1, 2, none⟩ = some (.int .u64 l1) := (hB2.cell (by simp <;> omega)).trans hcb2
  replace hfb2 : w2.frozen? ⟨w.heap.size + 1, 2, none⟩ = false := (hB2.frozen (by simp <;> omega)).trans hfb2
  replace hcr0 : w2.cell? ⟨w.heap.size + 1 + 1, 0, none⟩ = some (.bool false) := (hB2.cell (by simp <;> omega)).trans hcr0
  replace hfr0 : w2.frozen? ⟨w.heap.size + 1 + 1, 0, none⟩ = false := (hB2.frozen (by simp <;> omega)).trans hfr0
  replace hcr1 : w2.cell? ⟨w.heap.size + 1 + 1, 1, none⟩ = some (.int .u64 0) := (hB2.cell (by simp <;> omega)).trans hcr1
  replace hfr1 : w2.frozen? ⟨w.heap.size + 1 + 1, 1, none⟩ = false := (hB2.frozen (by simp <;> omega)).trans hfr1
  replace hcr2 : w2.cell? ⟨w.heap.size + 1 + 1, 2, none⟩ = some (.int .u64 0) := (hB2.cell (by simp <;> omega)).trans hcr2
  replace hfr2 : w2.frozen? ⟨w.heap.size + 1 + 1, 2, none⟩ = false := (hB2.frozen (by simp <;> omega)).trans hfr2
  replace HB : Hid (Below w.heap.size w w2) := HB.out.trans (hB2.mono (by omega))
  replace hs : w.heap.size + 1 + 1 + 1 ≤ w2.heap.size := Nat.le_trans hs hB2.size
  clear hB2
  have hs0 : w.heap.size < w2.heap.size := by omega
  have hs1 : w.heap.size + 1 < w2.heap.size := by omega
  have hs2 : w.heap.size + 1 + 1 < w2.heap.size := by omega
  go_wp2_with fail
  refine (specOrder n0 h0 l0 n1 h1 l1 _).mono ?_
  rintro e w3 ⟨rfl, hB3⟩
  rw [ho]
  have hca0 : w3.cell? ⟨w.heap.size, 0, none⟩ = some (.bool n0) := by rw [hB3.cell (by simp <;> omega)]; go_simp
  have hfa0 : w3.frozen? ⟨w.heap.size, 0, none⟩ = false := by rw [hB3.frozen (by simp <;> omega)]; go_simp
  have hca1 : w3.cell? ⟨w.heap.size, 1, none⟩ = some (.int .u64 h0) := by rw [hB3.cell (by simp <;> omega)]; go_simp
  have hfa1 : w3.frozen? ⟨w.heap.size, 1, none⟩ = false := by rw [hB3.frozen (by simp <;> omega)]; go_simp
  have hca2 : w3.cell? ⟨w.heap.size, 2, none⟩ = some (.int .u64 l0) := by rw [hB3.cell (by simp <;> omega)]; go_simp
  have hfa2 : w3.frozen? ⟨w.heap.size, 2, none⟩ = false := by rw [hB3.frozen (by simp <;> omega)]; go_simp
  have hcb0 : w3.cell? ⟨w.heap.size + 1, 0, none⟩ = some (.bool n1) := by rw [hB3.cell (by simp <;> omega)]; go_simp
  have hfb0 : w3.frozen? ⟨w.heap.size + 1, 0, none⟩ = false := by rw [hB3.frozen (by simp <;> omega)]; go_simp
  have hcb1 : w3.cell? ⟨w.heap.size + 1, 1, none⟩ = some (.int .u64 h1) := by rw [hB3.cell (by simp <;> omega)]; go_simp
  have hfb1 : w3.frozen? ⟨w.heap.size + 1, 1, none⟩ = false := by rw [hB3.frozen (by simp <;> omega)]; go_simp
  have hcb2 : w3.cell? ⟨w.heap.size + 1, 2, none⟩ = some (.int .u64 l1) := by rw [hB3.cell (by simp <;> omega)]; go_simp
  have hfb2 : w3.frozen? ⟨w.heap.size + 1, 2, none⟩ = false := by rw [hB3.frozen (by simp <;> omega)]; go_simp
  have hcr0 : w3.cell? ⟨w.heap.size + 1 + 1, 0, none⟩ = some (.bool false) := by rw [hB3.cell (by simp <;> omega)]; go_simp
  have hfr0 : w3.frozen? ⟨w.heap.size + 1 + 1, 0, none⟩ = false := by rw [hB3.frozen (by simp <;> omega)]; go_simp
  have hcr1 : w3.cell? ⟨w.heap.size + 1 + 1, 1, none⟩ = some (.int .u64 0) := by rw [hB3.cell (by simp <;> omega)]; go_simp
  have hfr1 : w3.frozen? ⟨w.heap.size + 1 + 1, 1, none⟩ = false := by rw [hB3.frozen (by simp <;> omega)]; go_simp
  have hcr2 : w3.cell? ⟨w.heap.size + 1 + 1, 2, none⟩ = some (.int .u64 0) := by rw [hB3.cell (by simp <;> omega)]; go_simp
  have hfr2 : w3.frozen? ⟨w.heap.size + 1 + 1, 2, none⟩ = false := by rw [hB3.frozen (by simp <;> omega)]; go_simp
  have hcx0 : w3.cell? ⟨w2.heap.size, 0, none⟩ = some (.bool n0) := by rw [hB3.cell (by simp <;> omega)]; go_simp
  have hfx0 : w3.frozen? ⟨w2.heap.size, 0, none⟩ = false := by rw [hB3.frozen (by simp <;> omega)]; go_simp
  have hcx1 : w3.cell? ⟨w2.heap.size, 1, none⟩ = some (.int .u64 h0) := by rw [hB3.cell (by simp <;> omega)]; go_simp
  have hfx1 : w3.frozen? ⟨w2.heap.size, 1, none⟩ = false := by rw [hB3.frozen (by simp <;> omega)]; go_simp
  have hcx2 : w3.cell? ⟨w2.heap.size, 2, none⟩ = some (.int .u64 l0) := by rw [hB3.cell (by simp <;> omega)]; go_simp
  have hfx2 : w3.frozen? ⟨w2.heap.size, 2, none⟩ = false := by rw [hB3.frozen (by simp <;> omega)]; go_simp
  have hcy0 : w3.cell? ⟨w2.heap.size + 1, 0, none⟩ = some (.bool n1) := by rw [hB3.cell (by simp <;> omega)]; go_simp
  have hfy0 : w3.frozen? ⟨w2.heap.size + 1, 0, none⟩ = false := by rw [hB3.frozen (by simp <;> omega)]; go_simp
  have hcy1 : w3.cell? ⟨w2.heap.size + 1, 1, none⟩ = some (.int .u64 h1) := by rw [hB3.cell (by simp <;> omega)]; go_simp
  have hfy1 : w3.frozen? ⟨w2.heap.size + 1, 1, none⟩ = false := by rw [hB3.frozen (by simp <;> omega)]; go_simp
  have hcy2 : w3.cell? ⟨w2.heap.size + 1, 2, none⟩ = some (.int .u64 l1) := by rw [hB3.cell (by simp <;> omega)]; go_simp
  have hfy2 : w3.frozen? ⟨w2.heap.size + 1, 2, none⟩ = false := by rw [hB3.frozen (by simp <;> omega)]; go_simp
  replace HB : Hid (Below w.heap.size w w3) := ((HB.out.alloc (by omega) _).alloc (by simp <;> omega) _).trans (hB3.mono (by simp <;> omega))
  have hs3 : w2.heap.size + 1 + 1 ≤ w3.heap.size := by have := hB3.size; simp at this; omega
  clear hB3
  have e0 : ¬ (w.heap.size = w2.heap.size) := by omega
  have e1 : ¬ (w.heap.size + 1 = w2.heap.size) := by omega
  have e2 : ¬ (w.heap.size + 1 + 1 = w2.heap.size) := by omega
  have e0' : ¬ (w.heap.size = w2.heap.size + 1) := by omega
  have e1' : ¬ (w.heap.size = w2.heap.size) := by omega
  have e2' : ¬ (w.heap.size + 1 = w2.heap.size) := by omega
  have f0 : w.heap.size < w3.heap.size := by omega
  have f1 : w.heap.size + 1 < w3.heap.size := by omega
  have f2 : w.heap.size + 1 + 1 < w3.heap.size := by omega
  have f3 : w2.heap.size < w3.heap.size := by omega
  have f4 : w2.heap.size + 1 < w3.heap.size := by omega
  go_wp2_with fail
  refine (specZero n0 (h0 - h1) (l0 - l1) _).mono ?_
  rintro e w4 ⟨rfl, hB4⟩
  rw [hz]
  have hcr0 : w4.cell? ⟨w.heap.size + 1 + 1, 0, none⟩ = some (.bool false) := by rw [hB4.cell (by simp <;> omega)]; go_simp
  have hfr0 : w4.frozen? ⟨w.heap.size + 1 + 1, 0, none⟩ = false := by rw [hB4.frozen (by simp <;> omega)]; go_simp
  have hcr1 : w4.cell? ⟨w.heap.size + 1 + 1, 1, none⟩ = some (.int .u64 0) := by rw [hB4.cell (by simp <;> omega)]; go_simp
  have hfr1 : w4.frozen? ⟨w.heap.size + 1 + 1, 1, none⟩ = false := by rw [hB4.frozen (by simp <;> omega)]; go_simp
  have hcr2 : w4.cell? ⟨w.heap.size + 1 + 1, 2, none⟩ = some (.int .u64 0) := by rw [hB4.cell (by simp <;> omega)]; go_simp
  have hfr2 : w4.frozen? ⟨w.heap.size + 1 + 1, 2, none⟩ = false := by rw [hB4.frozen (by simp <;> omega)]; go_simp
  have hco0 : w4.cell? ⟨w3.heap.size, 0, none⟩ = some (.bool n0) := by rw [hB4.cell (by simp <;> omega)]; go_simp
  have hfo0 : w4.frozen? ⟨w3.heap.size, 0, none⟩ = false := by rw [hB4.frozen (by simp <;> omega)]; go_simp
  have hco1 : w4.cell? ⟨w3.heap.size, 1, none⟩ = some (.int .u64 (h0 - h1)) := by rw [hB4.cell (by simp <;> omega)]; go_simp
  have hfo1 : w4.frozen? ⟨w3.heap.size, 1, none⟩ = false := by rw [hB4.frozen (by simp <;> omega)]; go_simp
  have hco2 : w4.cell? ⟨w3.heap.size, 2, none⟩ = some (.int .u64 (l0 - l1)) := by rw [hB4.cell (by simp <;> omega)]; go_simp
  have hfo2 : w4.frozen? ⟨w3.heap.size, 2, none⟩ = false := by rw [hB4.frozen (by simp <;> omega)]; go_simp
  replace HB : Hid (Below w.heap.size w w4) := (HB.out.alloc (by first | omega | (simp <;> omega)) _).trans (hB4.mono (by simp <;> omega))
  have f5 : w.heap.size ≤ w3.heap.size := by omega
  have f6 : w3.heap.size + 1 ≤ w4.heap.size := by have := hB4.size; simp at this; omega
  clear hB4
  go_wp2_with fail
  (try simp only [Exit.inBlock, Exit.then])
  refine bodyPost_ret (v := .tuple #[.agg #[.bool false, .int .u64 (h0 - h1), .int .u64 (l0 - l1)], .bool true]) ?_ rfl ⟨fin, ?_⟩
  · rw [results_cell_tmp rfl]
    go_simp
  · repeat' (first | assumption | exact Below.refl _ _ | exact HB.out | refine Below.alloc ?_ (by simp <;> omega) _ | refine Below.setCell ?_ (by simp <;> omega) _)
set_option maxRecDepth 100000 in
set_option maxHeartbeats 1000000 in
theorem specAdd_diff_ge_b (n0 : Bool) (h0 l0 : Int) (n1 : Bool) (h1 l1 : Int) (hp0 : 0 ≤ h0) (hp1 : 0 ≤ h1)  (hk0 : okV n0 h0 l0 = true) (hk1 : okV n1 h1 l1 = true) (hq0 : h0 < 9223372036854775808) (hq1 : h1 < 9223372036854775808)  (hn : (n0 == n1) = false) (v : Int) (hv : ¬ v < 0) (ho : ordV h0 l0 h1 l1 = v) (hh : h1 + 1 ≤ h0) (hll : l0 < l1) (hwr : IntKind.u64.wrap (l0 - l1) = l0 - l1 + 18446744073709551616) (hz : decide (h0 - h1 - 1 = 0 ∧ l0 - l1 + 18446744073709551616 = 0) = false) (fin : Ending.returned (.tuple #[.agg #[.bool n0, .int .u64 (h0 - h1 - 1), .int .u64 (l0 - l1 + 18446744073709551616)], .bool true]) = addE n0 h0 l0 n1 h1 l1) (w : World) :
    Calls Tryd.prog 26 #[.agg #[.bool n0, .int .u64 h0, .int .u64 l0], .agg #[.bool n1, .int .u64 h1, .int .u64 l1]] w fun e w' => e = addE n0 h0 l0 n1 h1 l1 ∧ Below w.heap.size w w' := by
  go_enter Tryd.func26, Tryd.ntmps26
  go_wp2_with fail
  refine (specWideOk n0 h0 l0 _).mono ?_
  rintro e w1 ⟨rfl, hB⟩
  rw [hk0]
  have hca0 : w1.cell? ⟨w.heap.size, 0, none⟩ = some (.bool n0) := by rw [hB.cell (by simp <;> omega)]; go_simp
  have hfa0 : w1.frozen? ⟨w.heap.size, 0, none⟩ = false := by rw [hB.frozen (by simp <;> omega)]; go_simp
  have hca1 : w1.cell? ⟨w.heap.size, 1, none⟩ = some (.int .u64 h0) := by rw [hB.cell (by simp <;> omega)]; go_simp
  have hfa1 : w1.frozen? ⟨w.heap.size, 1, none⟩ = false := by rw [hB.frozen (by simp <;> omega)]; go_simp
  have hca2 : w1.cell? ⟨w.heap.size, 2, none⟩ = some (.int .u64 l0) := by rw [hB.cell (by simp <;> omega)]; go_simp
  have hfa2 : w1.frozen? ⟨w.heap.size, 2, none⟩ = false := by rw [hB.frozen (by simp <;> omega)]; go_simp
  have hcb0 : w1.cell? ⟨w.heap.size + 1, 0, none⟩ = some (.bool n1) := by rw [hB.cell (by simp <;> omega)]; go_simp
  have hfb0 : w1.frozen? ⟨w.heap.size + 1, 0, none⟩ = false := by rw [hB.frozen (by simp <;> omega)]; go_simp
  have hcb1 : w1.cell? ⟨w.heap.size + 1, 1, none⟩ = some (.int .u64 h1) := by rw [hB.cell (by simp <;> omega)]; go_simp
  have hfb1 : w1.frozen? ⟨w.heap.size + 1, 1, none⟩ = false := by rw [hB.frozen (by simp <;> omega)]; go_simp
  have hcb2 : w1.cell? ⟨w.heap.size + 1, 2, none⟩ = some (.int .u64 l1) := by rw [hB.cell (by simp <;> omega)]; go_simp
  have hfb2 : w1.frozen? ⟨w.heap.size + 1, 2, none⟩ = false := by rw [hB.frozen (by simp <;> omega)]; go_simp
  have hcr0 : w1.cell? ⟨w.heap.size + 1 + 1, 0, none⟩ = some (.bool false) := by rw [hB.cell (by simp <;> omega)]; go_simp
  have hfr0 : w1.frozen? ⟨w.heap.size + 1 + 1, 0, none⟩ = false := by rw [hB.frozen (by simp <;> omega)]; go_simp
  have hcr1 : w1.cell? ⟨w.heap.size + 1 + 1, 1, none⟩ = some (.int .u64 0) := by rw [hB.cell (by simp <;> omega)]; go_simp
  have hfr1 : w1.frozen? ⟨w.heap.size + 1 + 1, 1, none⟩ = false := by rw [hB.frozen (by simp <;> omega)]; go_simp
  have hcr2 : w1.cell? ⟨w.heap.size + 1 + 1, 2, none⟩ = some (.int .u64 0) := by rw [hB.cell (by simp <;> omega)]; go_simp
  have hfr2 : w1.frozen? ⟨w.heap.size + 1 + 1, 2, none⟩ = false := by rw [hB.frozen (by simp <;> omega)]; go_simp
  have HB : Hid (Below w.heap.size w w1) := ((((Below.refl _ _).alloc (Nat.le_refl _) _).alloc (by simp) _).alloc (by simp <;> omega) _).trans (hB.mono (by simp <;> omega))
  have hs : w.heap.size + 1 + 1 + 1 ≤ w1.heap.size := by have := hB.size; simpa using this
  clear hB
  go_wp2_with fail
  refine (specWideOk n1 h1 l1 _).mono ?_
  rintro e w2 ⟨rfl, hB2⟩
  rw [hk1]
  replace hca0 : w2.cell? ⟨w.heap.size, 0, none⟩ = some (.bool n0) := (hB2.cell (by simp <;> omega)).trans hca0
  replace hfa0 : w2.frozen? ⟨w.heap.size, 0, none⟩ = false := (hB2.frozen (by simp <;> omega)).trans hfa0
  replace hca1 : w2.cell? ⟨w.heap.size, 1, none⟩ = some (.int .u64 h0) := (hB2.cell (by simp <;> omega)).trans hca1
  replace hfa1 : w2.frozen? ⟨w.heap.size, 1, none⟩ = false := (hB2.frozen (by simp <;> omega)).trans hfa1
  replace hca2 : w2.cell? ⟨w.heap.size, 2, none⟩ = some (.int .u64 l0) := (hB2.cell (by simp <;> omega)).trans hca2
  replace hfa2 : w2.frozen? ⟨w.heap.size, 2, none⟩ = false := (hB2.frozen (by simp <;> omega)).trans hfa2
  replace hcb0 : w2.cell? ⟨w.heap.size + 1, 0, none⟩ = some (.bool n1) := (hB2.cell (by simp <;> omega)).trans hcb0
  replace hfb0 : w2.frozen? ⟨w.heap.size + 1, 0, none⟩ = false := (hB2.frozen (by simp <;> omega)).trans hfb0
  replace hcb1 : w2.cell? ⟨w.heap.size + 1, 1, none⟩ = some (.int .u64 h1) := (hB2.cell (by simp <;> omega)).trans hcb1
  replace hfb1 : w2.frozen? ⟨w.heap.size + 1, 1, none⟩ = false := (hB2.frozen (by simp <;> omega)).trans hfb1
  replace hcb2 : w2.cell? ⟨w.heap.size + 1, 2, none⟩ = some (.int .u64 l1) := (hB2.cell (by simp <;> omega)).trans hcb2
  replace hfb2 : w2.frozen? ⟨w.heap.size + 1, 2, none⟩ = false := (hB2.frozen (by simp <;> omega)).trans hfb2
  replace hcr0 : w2.cell? ⟨w.heap.size + 1 + 1, 0, none⟩ = some (.bool false) := (hB2.cell (by simp <;> omega)).trans hcr0
  replace hfr0 : w2.frozen? ⟨w.heap.size + 1 + 1, 0, none⟩ = false := (hB2.frozen (by simp <;> omega)).trans hfr0
  replace hcr1 : w2.cell? ⟨w.heap.size + 1 + 1, 1, none⟩ = some (.int .u64 0) := (hB2.cell (by simp <;> omega)).trans hcr1
  replace hfr1 : w2.frozen? ⟨w.heap.size + 1 + 1, 1, none⟩ = false := (hB2.frozen (by simp <;> omega)).trans hfr1
  replace hcr2 : w2.cell? ⟨w.heap.size + 1 + 1, 2, none⟩ = some (.int .u64 0) := (hB2.cell (by simp <;> omega)).trans hcr2
  replace hfr2 : w2.frozen? ⟨w.heap.size + 1 + 1, 2, none⟩ = false := (hB2.frozen (by simp <;> omega)).trans hfr2
  replace HB : Hid (Below w.heap.size w w2) := HB.out.trans (hB2.mono (by omega))
  replace hs : w.heap.size + 1 + 1 + 1 ≤ w2.heap.size := Nat.le_trans hs hB2.size
  clear hB2
  have hs0 : w.heap.size < w2.heap.size := by omega
  have hs1 : w.heap.size + 1 < w2.heap.size := by omega
  have hs2 : w.heap.size + 1 + 1 < w2.heap.size := by omega
  go_wp2_with fail
  refine (specOrder n0 h0 l0 n1 h1 l1 _).mono ?_
  rintro e w3 ⟨rfl, hB3⟩
  rw [ho]
  have hca0 : w3.cell? ⟨w.heap.size, 0, none⟩ = some (.bool n0) := by rw [hB3.cell (by simp <;> omega)]; go_simp
  have hfa0 : w3.frozen? ⟨w.heap.size, 0, none⟩ = false := by rw [hB3.frozen (by simp <;> omega)]; go_simp
  have hca1 : w3.cell? ⟨w.heap.size, 1, none⟩ = some (.int .u64 h0) := by rw [hB3.cell (by simp <;> omega)]; go_simp
  have hfa1 : w3.frozen? ⟨w.heap.size, 1, none⟩ = false := by rw [hB3.frozen (by simp <;> omega)]; go_simp
  have hca2 : w3.cell? ⟨w.heap.size, 2, none⟩ = some (.int .u64 l0) := by rw [hB3.cell (by simp <;> omega)]; go_simp
  have hfa2 : w3.frozen? ⟨w.heap.size, 2, none⟩ = false := by rw [hB3.frozen (by simp <;> omega)]; go_simp
  have hcb0 : w3.cell? ⟨w.heap.size + 1, 0, none⟩ = some (.bool n1) := by rw [hB3.cell (by simp <;> omega)]; go_simp
  have hfb0 : w3.frozen? ⟨w.heap.size + 1, 0, none⟩ = false := by rw [hB3.frozen (by simp <;> omega)]; go_simp
  have hcb1 : w3.cell? ⟨w.heap.size + 1, 1, none⟩ = some (.int .u64 h1) := by rw [hB3.cell (by simp <;> omega)]; go_simp
  have hfb1 : w3.frozen? ⟨w.heap.size + 1, 1, none⟩ = false := by rw [hB3.frozen (by simp <;> omega)]; go_simp
  have hcb2 : w3.cell? ⟨w.heap.size + 1, 2, none⟩ = some (.int .u64 l1) := by rw [hB3.cell (by simp <;> omega)]; go_simp
  have hfb2 : w3.frozen? ⟨w.heap.size + 1, 2, none⟩ = false := by rw [hB3.frozen (by simp <;> omega)]; go_simp
  have hcr0 : w3.cell? ⟨w.heap.size + 1 + 1, 0, none⟩ = some (.bool false) := by rw [hB3.cell (by simp <;> omega)]; go_simp
  have hfr0 : w3.frozen? ⟨w.heap.size + 1 + 1, 0, none⟩ = false := by rw [hB3.frozen (by simp <;> omega)]; go_simp
  have hcr1 : w3.cell? ⟨w.heap.size + 1 + 1, 1, none⟩ = some (.int .u64 0) := by rw [hB3.cell (by simp <;> omega)]; go_simp
  have hfr1 : w3.frozen? ⟨w.heap.size + 1 + 1, 1, none⟩ = false := by rw [hB3.frozen (by simp <;> omega)]; go_simp
  have hcr2 : w3.cell? ⟨w.heap.size + 1 + 1, 2, none⟩ = some (.int .u64 0) := by rw [hB3.cell (by simp <;> omega)]; go_simp
  have hfr2 : w3.frozen? ⟨w.heap.size + 1 + 1, 2, none⟩ = false := by rw [hB3.frozen (by simp <;> omega)]; go_simp
  have hcx0 : w3.cell? ⟨w2.heap.size, 0, none⟩ = some (.bool n0) := by rw [hB3.cell (by simp <;> omega)]; go_simp
  have hfx0 : w3.frozen? ⟨w2.heap.size, 0, none⟩ = false := by rw [hB3.frozen (by simp <;> omega)]; go_simp
  have hcx1 : w3.cell? ⟨w2.heap.size, 1, none⟩ = some (.int .u64 h0) := by rw [hB3.cell (by simp <;> omega)]; go_simp
  have hfx1 : w3.frozen? ⟨w2.heap.size, 1, none⟩ = false := by rw [hB3.frozen (by simp <;> omega)]; go_simp
  have hcx2 : w3.cell? ⟨w2.heap.size, 2, none⟩ = some (.int .u64 l0) := by rw [hB3.cell (by simp <;> omega)]; go_simp
  have hfx2 : w3.frozen? ⟨w2.heap.size, 2, none⟩ = false := by rw [hB3.frozen (by simp <;> omega)]; go_simp
  have hcy0 : w3.cell? ⟨w2.heap.size + 1, 0, none⟩ = some (.bool n1) := by rw [hB3.cell (by simp <;> omega)]; go_simp
  have hfy0 : w3.frozen? ⟨w2.heap.size + 1, 0, none⟩ = false := by rw [hB3.frozen (by simp <;> omega)]; go_simp
  have hcy1 : w3.cell? ⟨w2.heap.size + 1, 1, none⟩ = some (.int .u64 h1) := by rw [hB3.cell (by simp <;> omega)]; go_simp
  have hfy1 : w3.frozen? ⟨w2.heap.size + 1, 1, none⟩ = false := by rw [hB3.frozen (by simp <;> omega)]; go_simp
  have hcy2 : w3.cell? ⟨w2.heap.size + 1, 2, none⟩ = some (.int .u64 l1) := by rw [hB3.cell (by simp <;> omega)]; go_simp
  have hfy2 : w3.frozen? ⟨w2.heap.size + 1, 2, none⟩ = false := by rw [hB3.frozen (by simp <;> omega)]; go_simp
  replace HB : Hid (Below w.heap.size w w3) := ((HB.out.alloc (by omega) _).alloc (by simp <;> omega) _).trans (hB3.mono (by simp <;> omega))
  have hs3 : w2.heap.size + 1 + 1 ≤ w3.heap.size := by have := hB3.size; simp at this; omega
  clear hB3
  have e0 : ¬ (w.heap.size = w2.heap.size) := by omega
  have e1 : ¬ (w.heap.size + 1 = w2.heap.size) := by omega
  have e2 : ¬ (w.heap.size + 1 + 1 = w2.heap.size) := by omega
  have e0' : ¬ (w.heap.size = w2.heap.size + 1) := by omega
  have e1' : ¬ (w.heap.size = w2.heap.size) := by omega
  have e2' : ¬ (w.heap.size + 1 = w2.heap.size) := by omega
  have f0 : w.heap.size < w3.heap.size := by omega
  have f1 : w.heap.size + 1 < w3.heap.size := by omega
  have f2 : w.heap.size + 1 + 1 < w3.heap.size := by omega
  have f3 : w2.heap.size < w3.heap.size := by omega
  have f4 : w2.heap.size + 1 < w3.heap.size := by omega
  go_wp2_with fail
  refine (specZero n0 (h0 - h1 - 1) (l0 - l1 + 18446744073709551616) _).mono ?_
  rintro e w4 ⟨rfl, hB4⟩
  rw [hz]
  have hcr0 : w4.cell? ⟨w.heap.size + 1 + 1, 0, none⟩ = some (.bool false) := by rw [hB4.cell (by simp <;> omega)]; go_simp
  have hfr0 : w4.frozen? ⟨w.heap.size + 1 + 1, 0, none⟩ = false := by rw [hB4.frozen (by simp <;> omega)]; go_simp
  have hcr1 : w4.cell? ⟨w.heap.size + 1 + 1, 1, none⟩ = some (.int .u64 0) := by rw [hB4.cell (by simp <;> omega)]; go_simp
  have hfr1 : w4.frozen? ⟨w.heap.size + 1 + 1, 1, none⟩ = false := by rw [hB4.frozen (by simp <;> omega)]; go_simp
  have hcr2 : w4.cell? ⟨w.heap.size + 1 + 1, 2, none⟩ = some (.int .u64 0) := by rw [hB4.cell (by simp <;> omega)]; go_simp
  have hfr2 : w4.frozen? ⟨w.heap.size + 1 + 1, 2, none⟩ = false := by rw [hB4.frozen (by simp <;> omega)]; go_simp
  have hco0 : w4.cell? ⟨w3.heap.size, 0, none⟩ = some (.bool n0) := by rw [hB4.cell (by simp <;> omega)]; go_simp
  have hfo0 : w4.frozen? ⟨w3.heap.size, 0, none⟩ = false := by rw [hB4.frozen (by simp <;> omega)]; go_simp
  have hco1 : w4.cell? ⟨w3.heap.size, 1, none⟩ = some (.int .u64 (h0 - h1 - 1)) := by rw [hB4.cell (by simp <;> omega)]; go_simp
  have hfo1 : w4.frozen? ⟨w3.heap.size, 1, none⟩ = false := by rw [hB4.frozen (by simp <;> omega)]; go_simp
  have hco2 : w4.cell? ⟨w3.heap.size, 2, none⟩ = some (.int .u64 (l0 - l1 + 18446744073709551616)) := by rw [hB4.cell (by simp <;> omega)]; go_simp
  have hfo2 : w4.frozen? ⟨w3.heap.size, 2, none⟩ = false := by rw [hB4.frozen (by simp <;> omega)]; go_simp
  replace HB : Hid (Below w.heap.size w w4) := (HB.out.alloc (by first | omega | (simp <;> omega)) _).trans (hB4.mono (by simp <;> omega))
  have f5 : w.heap.size ≤ w3.heap.size := by omega
  have f6 : w3.heap.size + 1 ≤ w4.heap.size := by have := hB4.size; simp at this; omega
  clear hB4
  go_wp2_with fail
  (try simp only [Exit.inBlock, Exit.then])
  refine bodyPost_ret (v := .tuple #[.agg #[.bool n0, .int .u64 (h0 - h1 - 1), .int .u64 (l0 - l1 + 18446744073709551616)], .bool true]) ?_ rfl ⟨fin, ?_⟩
  · rw [results_cell_tmp rfl]
    go_simp
  · repeat' (first | assumption | exact Below.refl _ _ | exact HB.out | refine Below.alloc ?_ (by simp <;> omega) _ | refine Below.setCell ?_ (by simp <;> omega) _)
theorem addE_ok {n m : Bool} {h l k j : Int} {e : Ending} (a : okV n h l = true) (b : okV m k j = true) (x : e = fitW (sv n (h * 18446744073709551616 + l) + sv m (k * 18446744073709551616 + j))) : e = addE n h l m k j := by
  rw [addE, if_pos ⟨a, b⟩, x]
theorem specAddWide (n0 : Bool) (h0 l0 : Int) (n1 : Bool) (h1 l1 : Int) (hp0 : 0 ≤ h0) (hp1 : 0 ≤ h1) (lp0 : 0 ≤ l0) (lq0 : l0 < 18446744073709551616) (lp1 : 0 ≤ l1) (lq1 : l1 < 18446744073709551616) (w : World) :
    Calls Tryd.prog 26 #[.agg #[.bool n0, .int .u64 h0, .int .u64 l0], .agg #[.bool n1, .int .u64 h1, .int .u64 l1]] w fun e w' => e = addE n0 h0 l0 n1 h1 l1 ∧ Below w.heap.size w w' := by
  by_cases hk0 : okV n0 h0 l0 = true
  rotate_left
  · exact specAdd_no0 n0 h0 l0 n1 h1 l1 (by simpa using hk0) w
  by_cases hk1 : okV n1 h1 l1 = true
  rotate_left
  · exact specAdd_no1 n0 h0 l0 n1 h1 l1 hk0 (by simpa using hk1) w
  obtain ⟨hq0, hz0⟩ := okV_yes hk0
  obtain ⟨hq1, hz1⟩ := okV_yes hk1
  by_cases hn : n0 = n1
  · subst hn
    by_cases hc : l0 + l1 < 18446744073709551616
    · by_cases hf : h0 + h1 < 9223372036854775808
      · have hz2 : n0 = true → 0 < h0 + h1 ∨ 0 < l0 + l1 := fun h => by have := hz0 h; omega
        exact specAdd_same_nc_ok n0 h0 l0 h1 l1 hp0 hp1 lp0 lq0 lp1 lq1 hk0 hk1 hq0 hq1 hc (okV_mk hf hz2) (addE_ok hk0 hk1 (fitW_yes (by omega) hf (by omega) hc hz2 (by cases n0 <;> simp [sv] <;> omega))) w
      · exact specAdd_same_nc_no n0 h0 l0 h1 l1 hp0 hp1 lp0 lq0 lp1 lq1 hk0 hk1 hq0 hq1 hc (okV_big hf) (addE_ok hk0 hk1 (fitW_no (by cases n0 <;> simp [sv, RoomW] <;> omega))) w
    · have hwr : IntKind.u64.wrap (l0 + l1) = l0 + l1 - 18446744073709551616 := by rw [IntKind.wrap_u64]; omega
      by_cases hf : h0 + h1 + 1 < 9223372036854775808
      · have hz2 : n0 = true → 0 < h0 + h1 + 1 ∨ 0 < l0 + l1 - 18446744073709551616 := fun _ => by omega
        exact specAdd_same_c_ok n0 h0 l0 h1 l1 hp0 hp1 lp1 lq1 hk0 hk1 hq0 hq1 hwr (okV_mk hf hz2) (addE_ok hk0 hk1 (fitW_yes (by omega) hf (by omega) (by omega) hz2 (by cases n0 <;> simp [sv] <;> omega))) w
      · exact specAdd_same_c_no n0 h0 l0 h1 l1 hp0 hp1 lp1 lq1 hk0 hk1 hq0 hq1 hwr (okV_big hf) (addE_ok hk0 hk1 (fitW_no (by cases n0 <;> simp [sv, RoomW] <;> omega))) w
  · obtain rfl : n1 = !n0 := by cases n0 <;> cases n1 <;> simp_all
    have hn' : (n0 == !n0) = false := by cases n0 <;> rfl
    by_cases hlt : h0 < h1 ∨ h0 = h1 ∧ l0 < l1
    · have ho : ordV h0 l0 h1 l1 = -1 := if_pos hlt
      by_cases hb : l0 ≤ l1
      · exact specAdd_diff_lt_nb n0 h0 l0 (!n0) h1 l1 hp0 hp1 lp0 lq0 lp1 lq1 hk0 hk1 hq0 hq1 hn' ho (by omega) hb (by simp; omega) (addE_ok hk0 hk1 (fitW_yes (by omega) (by omega) (by omega) (by omega) (fun _ => by omega) (by cases n0 <;> simp [sv] <;> omega))) w
      · exact specAdd_diff_lt_b n0 h0 l0 (!n0) h1 l1 hp0 hp1 hk0 hk1 hq0 hq1 hn' ho (by omega) (by omega) (by rw [IntKind.wrap_u64]; omega) (by simp; omega) (addE_ok hk0 hk1 (fitW_yes (by omega) (by omega) (by omega) (by omega) (fun _ => by omega) (by cases n0 <;> simp [sv] <;> omega))) w
    · have hv : ¬ ordV h0 l0 h1 l1 < 0 := by unfold ordV; rw [if_neg hlt]; split <;> omega
      by_cases hb : l1 ≤ l0
      · by_cases hz : h0 - h1 = 0 ∧ l0 - l1 = 0
        · exact specAdd_diff_ge_z n0 h0 l0 (!n0) h1 l1 hp0 hp1 lp0 lq0 lp1 lq1 hk0 hk1 hq0 hq1 hn' _ hv rfl (by omega) hb (by simpa using hz) (addE_ok hk0 hk1 (fitW_yes (by omega) (by omega) (by omega) (by omega) (fun h => by cases h) (by cases n0 <;> simp [sv] <;> omega))) w
        · exact specAdd_diff_ge_nb n0 h0 l0 (!n0) h1 l1 hp0 hp1 lp0 lq0 lp1 lq1 hk0 hk1 hq0 hq1 hn' _ hv rfl (by omega) hb (by simpa using hz) (addE_ok hk0 hk1 (fitW_yes (by omega) (by omega) (by omega) (by omega) (fun _ => by omega) (by cases n0 <;> simp [sv] <;> omega))) w
      · exact specAdd_diff_ge_b n0 h0 l0 (!n0) h1 l1 hp0 hp1 hk0 hk1 hq0 hq1 hn' _ hv rfl (by omega) (by omega) (by rw [IntKind.wrap_u64]; omega) (by simp; omega) (addE_ok hk0 hk1 (fitW_yes (by omega) (by omega) (by omega) (by omega) (fun _ => by omega) (by cases n0 <;> simp [sv] <;> omega))) w
end Go.Proofs.YtapdocfifgnjgaaDoor
