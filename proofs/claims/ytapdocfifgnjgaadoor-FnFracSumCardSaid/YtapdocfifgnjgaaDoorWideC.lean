
/-
  Wide numbers of the reference: the order.
-/
import Derived.Test.YtapdocfifgnjgaaDoorWideM
namespace Go.Proofs.YtapdocfifgnjgaaDoor
open Go.RowKit

/-- The order of two wide numbers, negated 0 being 0. -/
def cmpV (n : Bool) (h l : Int) (m : Bool) (k j : Int) : Int :=
  if sv n (h * 18446744073709551616 + l) < sv m (k * 18446744073709551616 + j) then -1 else if sv m (k * 18446744073709551616 + j) < sv n (h * 18446744073709551616 + l) then 1 else 0
theorem cmpV_lt {n : Bool} {h l : Int} {m : Bool} {k j : Int} (c : sv n (h * 18446744073709551616 + l) < sv m (k * 18446744073709551616 + j)) : cmpV n h l m k j = -1 := if_pos c
theorem cmpV_gt {n : Bool} {h l : Int} {m : Bool} {k j : Int} (c : sv m (k * 18446744073709551616 + j) < sv n (h * 18446744073709551616 + l)) : cmpV n h l m k j = 1 := by rw [cmpV, if_neg (by omega), if_pos c]
theorem ordV_cmp {h l k j : Int} (l0 : 0 ≤ l) (l1 : l < 18446744073709551616) (j0 : 0 ≤ j) (j1 : j < 18446744073709551616) {n m : Bool} {h' l' k' j' : Int}
    (e0 : sv n (h' * 18446744073709551616 + l') = h * 18446744073709551616 + l) (e1 : sv m (k' * 18446744073709551616 + j') = k * 18446744073709551616 + j) : ordV h l k j = cmpV n h' l' m k' j' := by
  unfold ordV cmpV
  rw [e0, e1]
  repeat' split
  all_goals omega

theorem cmpV_neg {h l k j : Int} (l0 : 0 ≤ l) (l1 : l < 18446744073709551616) (j0 : 0 ≤ j) (j1 : j < 18446744073709551616) : ordV k j h l = cmpV true h l true k j := by
  unfold ordV cmpV
  simp only [sv, if_true]
  repeat' split
  all_goals omega
set_option maxRecDepth 100000 in
set_option maxHeartbeats 1000000 in
theorem specCmp_f_f_x_x (h0 l0 h1 l1 : Int)  (w : World) :
    Calls Tryd.prog 13 #[.agg #[.bool false, .int .u64 h0, .int .u64 l0], .agg #[.bool false, .int .u64 h1, .int .u64 l1]] w fun e w' => e = .returned (.int .i64 (ordV h0 l0 h1 l1)) ∧ Below w.heap.size w w' := by
  go_enter Tryd.func13, Tryd.ntmps13
  go_wp2_with fail
  refine (specOrder false h0 l0 false h1 l1 _).mono ?_
  rintro e w1 ⟨rfl, hB1⟩
  have hca0 : w1.cell? ⟨w.heap.size, 0, none⟩ = some (.bool false) := by rw [hB1.cell (by simp <;> omega)]; go_simp
  have hfa0 : w1.frozen? ⟨w.heap.size, 0, none⟩ = false := by rw [hB1.frozen (by simp <;> omega)]; go_simp
  have hca1 : w1.cell? ⟨w.heap.size, 1, none⟩ = some (.int .u64 h0) := by rw [hB1.cell (by simp <;> omega)]; go_simp
  have hfa1 : w1.frozen? ⟨w.heap.size, 1, none⟩ = false := by rw [hB1.frozen (by simp <;> omega)]; go_simp
  have hca2 : w1.cell? ⟨w.heap.size, 2, none⟩ = some (.int .u64 l0) := by rw [hB1.cell (by simp <;> omega)]; go_simp
  have hfa2 : w1.frozen? ⟨w.heap.size, 2, none⟩ = false := by rw [hB1.frozen (by simp <;> omega)]; go_simp
  have hcb0 : w1.cell? ⟨w.heap.size + 1, 0, none⟩ = some (.bool false) := by rw [hB1.cell (by simp <;> omega)]; go_simp
  have hfb0 : w1.frozen? ⟨w.heap.size + 1, 0, none⟩ = false := by rw [hB1.frozen (by simp <;> omega)]; go_simp
  have hcb1 : w1.cell? ⟨w.heap.size + 1, 1, none⟩ = some (.int .u64 h1) := by rw [hB1.cell (by simp <;> omega)]; go_simp
  have hfb1 : w1.frozen? ⟨w.heap.size + 1, 1, none⟩ = false := by rw [hB1.frozen (by simp <;> omega)]; go_simp
  have hcb2 : w1.cell? ⟨w.heap.size + 1, 2, none⟩ = some (.int .u64 l1) := by rw [hB1.cell (by simp <;> omega)]; go_simp
  have hfb2 : w1.frozen? ⟨w.heap.size + 1, 2, none⟩ = false := by rw [hB1.frozen (by simp <;> omega)]; go_simp
  have HB1 : Hid (Below w.heap.size w w1) := (((Below.refl _ _).alloc (Nat.le_refl _) _).alloc (by simp) _).trans (hB1.mono (by simp <;> omega))
  have hs1 : w.heap.size + 1 + 1 ≤ w1.heap.size := by have := hB1.size; simpa using this
  clear hB1
  go_wp2_with fail
  go_ret
  exact ⟨rfl, HB1.out⟩
set_option maxRecDepth 100000 in
set_option maxHeartbeats 1000000 in
theorem specCmp_f_t_x_f (h0 l0 h1 l1 : Int) (z1 : decide (h1 = 0 ∧ l1 = 0) = false) (w : World) :
    Calls Tryd.prog 13 #[.agg #[.bool false, .int .u64 h0, .int .u64 l0], .agg #[.bool true, .int .u64 h1, .int .u64 l1]] w fun e w' => e = .returned (.int .i64 (1)) ∧ Below w.heap.size w w' := by
  go_enter Tryd.func13, Tryd.ntmps13
  go_wp2_with fail
  refine (specZero true h1 l1 _).mono ?_
  rintro e w1 ⟨rfl, hB1⟩
  rw [z1]
  have hca0 : w1.cell? ⟨w.heap.size, 0, none⟩ = some (.bool false) := by rw [hB1.cell (by simp <;> omega)]; go_simp
  have hfa0 : w1.frozen? ⟨w.heap.size, 0, none⟩ = false := by rw [hB1.frozen (by simp <;> omega)]; go_simp
  have hca1 : w1.cell? ⟨w.heap.size, 1, none⟩ = some (.int .u64 h0) := by rw [hB1.cell (by simp <;> omega)]; go_simp
  have hfa1 : w1.frozen? ⟨w.heap.size, 1, none⟩ = false := by rw [hB1.frozen (by simp <;> omega)]; go_simp
  have hca2 : w1.cell? ⟨w.heap.size, 2, none⟩ = some (.int .u64 l0) := by rw [hB1.cell (by simp <;> omega)]; go_simp
  have hfa2 : w1.frozen? ⟨w.heap.size, 2, none⟩ = false := by rw [hB1.frozen (by simp <;> omega)]; go_simp
  have hcb0 : w1.cell? ⟨w.heap.size + 1, 0, none⟩ = some (.bool true) := by rw [hB1.cell (by simp <;> omega)]; go_simp
  have hfb0 : w1.frozen? ⟨w.heap.size + 1, 0, none⟩ = false := by rw [hB1.frozen (by simp <;> omega)]; go_simp
  have hcb1 : w1.cell? ⟨w.heap.size + 1, 1, none⟩ = some (.int .u64 h1) := by rw [hB1.cell (by simp <;> omega)]; go_simp
  have hfb1 : w1.frozen? ⟨w.heap.size + 1, 1, none⟩ = false := by rw [hB1.frozen (by simp <;> omega)]; go_simp
  have hcb2 : w1.cell? ⟨w.heap.size + 1, 2, none⟩ = some (.int .u64 l1) := by rw [hB1.cell (by simp <;> omega)]; go_simp
  have hfb2 : w1.frozen? ⟨w.heap.size + 1, 2, none⟩ = false := by rw [hB1.frozen (by simp <;> omega)]; go_simp
  have HB1 : Hid (Below w.heap.size w w1) := (((Below.refl _ _).alloc (Nat.le_refl _) _).alloc (by simp) _).trans (hB1.mono (by simp <;> omega))
  have hs1 : w.heap.size + 1 + 1 ≤ w1.heap.size := by have := hB1.size; simpa using this
  clear hB1
  go_wp2_with fail
  go_ret
  exact ⟨rfl, HB1.out⟩
set_option maxRecDepth 100000 in
set_option maxHeartbeats 1000000 in
theorem specCmp_f_t_x_t (h0 l0 h1 l1 : Int) (z1 : decide (h1 = 0 ∧ l1 = 0) = true) (w : World) :
    Calls Tryd.prog 13 #[.agg #[.bool false, .int .u64 h0, .int .u64 l0], .agg #[.bool true, .int .u64 h1, .int .u64 l1]] w fun e w' => e = .returned (.int .i64 (ordV h0 l0 h1 l1)) ∧ Below w.heap.size w w' := by
  go_enter Tryd.func13, Tryd.ntmps13
  go_wp2_with fail
  refine (specZero true h1 l1 _).mono ?_
  rintro e w1 ⟨rfl, hB1⟩
  rw [z1]
  have hca0 : w1.cell? ⟨w.heap.size, 0, none⟩ = some (.bool false) := by rw [hB1.cell (by simp <;> omega)]; go_simp
  have hfa0 : w1.frozen? ⟨w.heap.size, 0, none⟩ = false := by rw [hB1.frozen (by simp <;> omega)]; go_simp
  have hca1 : w1.cell? ⟨w.heap.size, 1, none⟩ = some (.int .u64 h0) := by rw [hB1.cell (by simp <;> omega)]; go_simp
  have hfa1 : w1.frozen? ⟨w.heap.size, 1, none⟩ = false := by rw [hB1.frozen (by simp <;> omega)]; go_simp
  have hca2 : w1.cell? ⟨w.heap.size, 2, none⟩ = some (.int .u64 l0) := by rw [hB1.cell (by simp <;> omega)]; go_simp
  have hfa2 : w1.frozen? ⟨w.heap.size, 2, none⟩ = false := by rw [hB1.frozen (by simp <;> omega)]; go_simp
  have hcb0 : w1.cell? ⟨w.heap.size + 1, 0, none⟩ = some (.bool true) := by rw [hB1.cell (by simp <;> omega)]; go_simp
  have hfb0 : w1.frozen? ⟨w.heap.size + 1, 0, none⟩ = false := by rw [hB1.frozen (by simp <;> omega)]; go_simp
  have hcb1 : w1.cell? ⟨w.heap.size + 1, 1, none⟩ = some (.int .u64 h1) := by rw [hB1.cell (by simp <;> omega)]; go_simp
  have hfb1 : w1.frozen? ⟨w.heap.size + 1, 1, none⟩ = false := by rw [hB1.frozen (by simp <;> omega)]; go_simp
  have hcb2 : w1.cell? ⟨w.heap.size + 1, 2, none⟩ = some (.int .u64 l1) := by rw [hB1.cell (by simp <;> omega)]; go_simp
  have hfb2 : w1.frozen? ⟨w.heap.size + 1, 2, none⟩ = false := by rw [hB1.frozen (by simp <;> omega)]; go_simp
  have HB1 : Hid (Below w.heap.size w w1) := (((Below.refl _ _).alloc (Nat.le_refl _) _).alloc (by simp) _).trans (hB1.mono (by simp <;> omega))
  have hs1 : w.heap.size + 1 + 1 ≤ w1.heap.size := by have := hB1.size; simpa using this
  clear hB1
  go_wp2_with fail
  refine (specOrder false h0 l0 true h1 l1 _).mono ?_
  rintro e w2 ⟨rfl, hB2⟩
  replace hca0 : w2.cell? ⟨w.heap.size, 0, none⟩ = some (.bool false) := (hB2.cell (by simp <;> omega)).trans hca0
  replace hfa0 : w2.frozen? ⟨w.heap.size, 0, none⟩ = false := (hB2.frozen (by simp <;> omega)).trans hfa0
  replace hca1 : w2.cell? ⟨w.heap.size, 1, none⟩ = some (.int .u64 h0) := (hB2.cell (by simp <;> omega)).trans hca1
  replace hfa1 : w2.frozen? ⟨w.heap.size, 1, none⟩ = false := (hB2.frozen (by simp <;> omega)).trans hfa1
  replace hca2 : w2.cell? ⟨w.heap.size, 2, none⟩ = some (.int .u64 l0) := (hB2.cell (by simp <;> omega)).trans hca2
  replace hfa2 : w2.frozen? ⟨w.heap.size, 2, none⟩ = false := (hB2.frozen (by simp <;> omega)).trans hfa2
  replace hcb0 : w2.cell? ⟨w.heap.size + 1, 0, none⟩ = some (.bool true) := (hB2.cell (by simp <;> omega)).trans hcb0
  replace hfb0 : w2.frozen? ⟨w.heap.size + 1, 0, none⟩ = false := (hB2.frozen (by simp <;> omega)).trans hfb0
  replace hcb1 : w2.cell? ⟨w.heap.size + 1, 1, none⟩ = some (.int .u64 h1) := (hB2.cell (by simp <;> omega)).trans hcb1
  replace hfb1 : w2.frozen? ⟨w.heap.size + 1, 1, none⟩ = false := (hB2.frozen (by simp <;> omega)).trans hfb1
  replace hcb2 : w2.cell? ⟨w.heap.size + 1, 2, none⟩ = some (.int .u64 l1) := (hB2.cell (by simp <;> omega)).trans hcb2
  replace hfb2 : w2.frozen? ⟨w.heap.size + 1, 2, none⟩ = false := (hB2.frozen (by simp <;> omega)).trans hfb2
  have HB2 : Hid (Below w.heap.size w w2) := HB1.out.trans (hB2.mono (by omega))
  have hs2 := Nat.le_trans hs1 hB2.size
  clear hB2 HB1 hs1
  go_wp2_with fail
  go_ret
  exact ⟨rfl, HB2.out⟩
set_option maxRecDepth 100000 in
set_option maxHeartbeats 1000000 in
theorem specCmp_t_f_f_x (h0 l0 h1 l1 : Int) (z0 : decide (h0 = 0 ∧ l0 = 0) = false) (w : World) :
    Calls Tryd.prog 13 #[.agg #[.bool true, .int .u64 h0, .int .u64 l0], .agg #[.bool false, .int .u64 h1, .int .u64 l1]] w fun e w' => e = .returned (.int .i64 (-1)) ∧ Below w.heap.size w w' := by
  go_enter Tryd.func13, Tryd.ntmps13
  go_wp2_with fail
  refine (specZero true h0 l0 _).mono ?_
  rintro e w1 ⟨rfl, hB1⟩
  rw [z0]
  have hca0 : w1.cell? ⟨w.heap.size, 0, none⟩ = some (.bool true) := by rw [hB1.cell (by simp <;> omega)]; go_simp
  have hfa0 : w1.frozen? ⟨w.heap.size, 0, none⟩ = false := by rw [hB1.frozen (by simp <;> omega)]; go_simp
  have hca1 : w1.cell? ⟨w.heap.size, 1, none⟩ = some (.int .u64 h0) := by rw [hB1.cell (by simp <;> omega)]; go_simp
  have hfa1 : w1.frozen? ⟨w.heap.size, 1, none⟩ = false := by rw [hB1.frozen (by simp <;> omega)]; go_simp
  have hca2 : w1.cell? ⟨w.heap.size, 2, none⟩ = some (.int .u64 l0) := by rw [hB1.cell (by simp <;> omega)]; go_simp
  have hfa2 : w1.frozen? ⟨w.heap.size, 2, none⟩ = false := by rw [hB1.frozen (by simp <;> omega)]; go_simp
  have hcb0 : w1.cell? ⟨w.heap.size + 1, 0, none⟩ = some (.bool false) := by rw [hB1.cell (by simp <;> omega)]; go_simp
  have hfb0 : w1.frozen? ⟨w.heap.size + 1, 0, none⟩ = false := by rw [hB1.frozen (by simp <;> omega)]; go_simp
  have hcb1 : w1.cell? ⟨w.heap.size + 1, 1, none⟩ = some (.int .u64 h1) := by rw [hB1.cell (by simp <;> omega)]; go_simp
  have hfb1 : w1.frozen? ⟨w.heap.size + 1, 1, none⟩ = false := by rw [hB1.frozen (by simp <;> omega)]; go_simp
  have hcb2 : w1.cell? ⟨w.heap.size + 1, 2, none⟩ = some (.int .u64 l1) := by rw [hB1.cell (by simp <;> omega)]; go_simp
  have hfb2 : w1.frozen? ⟨w.heap.size + 1, 2, none⟩ = false := by rw [hB1.frozen (by simp <;> omega)]; go_simp
  have HB1 : Hid (Below w.heap.size w w1) := (((Below.refl _ _).alloc (Nat.le_refl _) _).alloc (by simp) _).trans (hB1.mono (by simp <;> omega))
  have hs1 : w.heap.size + 1 + 1 ≤ w1.heap.size := by have := hB1.size; simpa using this
  clear hB1
  go_wp2_with fail
  go_ret
  exact ⟨rfl, HB1.out⟩
set_option maxRecDepth 100000 in
set_option maxHeartbeats 1000000 in
theorem specCmp_t_f_t_x (h0 l0 h1 l1 : Int) (z0 : decide (h0 = 0 ∧ l0 = 0) = true) (w : World) :
    Calls Tryd.prog 13 #[.agg #[.bool true, .int .u64 h0, .int .u64 l0], .agg #[.bool false, .int .u64 h1, .int .u64 l1]] w fun e w' => e = .returned (.int .i64 (ordV h0 l0 h1 l1)) ∧ Below w.heap.size w w' := by
  go_enter Tryd.func13, Tryd.ntmps13
  go_wp2_with fail
  refine (specZero true h0 l0 _).mono ?_
  rintro e w1 ⟨rfl, hB1⟩
  rw [z0]
  have hca0 : w1.cell? ⟨w.heap.size, 0, none⟩ = some (.bool true) := by rw [hB1.cell (by simp <;> omega)]; go_simp
  have hfa0 : w1.frozen? ⟨w.heap.size, 0, none⟩ = false := by rw [hB1.frozen (by simp <;> omega)]; go_simp
  have hca1 : w1.cell? ⟨w.heap.size, 1, none⟩ = some (.int .u64 h0) := by rw [hB1.cell (by simp <;> omega)]; go_simp
  have hfa1 : w1.frozen? ⟨w.heap.size, 1, none⟩ = false := by rw [hB1.frozen (by simp <;> omega)]; go_simp
  have hca2 : w1.cell? ⟨w.heap.size, 2, none⟩ = some (.int .u64 l0) := by rw [hB1.cell (by simp <;> omega)]; go_simp
  have hfa2 : w1.frozen? ⟨w.heap.size, 2, none⟩ = false := by rw [hB1.frozen (by simp <;> omega)]; go_simp
  have hcb0 : w1.cell? ⟨w.heap.size + 1, 0, none⟩ = some (.bool false) := by rw [hB1.cell (by simp <;> omega)]; go_simp
  have hfb0 : w1.frozen? ⟨w.heap.size + 1, 0, none⟩ = false := by rw [hB1.frozen (by simp <;> omega)]; go_simp
  have hcb1 : w1.cell? ⟨w.heap.size + 1, 1, none⟩ = some (.int .u64 h1) := by rw [hB1.cell (by simp <;> omega)]; go_simp
  have hfb1 : w1.frozen? ⟨w.heap.size + 1, 1, none⟩ = false := by rw [hB1.frozen (by simp <;> omega)]; go_simp
  have hcb2 : w1.cell? ⟨w.heap.size + 1, 2, none⟩ = some (.int .u64 l1) := by rw [hB1.cell (by simp <;> omega)]; go_simp
  have hfb2 : w1.frozen? ⟨w.heap.size + 1, 2, none⟩ = false := by rw [hB1.frozen (by simp <;> omega)]; go_simp
  have HB1 : Hid (Below w.heap.size w w1) := (((Below.refl _ _).alloc (Nat.le_refl _) _).alloc (by simp) _).trans (hB1.mono (by simp <;> omega))
  have hs1 : w.heap.size + 1 + 1 ≤ w1.heap.size := by have := hB1.size; simpa using this
  clear hB1
  go_wp2_with fail
  refine (specOrder true h0 l0 false h1 l1 _).mono ?_
  rintro e w2 ⟨rfl, hB2⟩
  replace hca0 : w2.cell? ⟨w.heap.size, 0, none⟩ = some (.bool true) := (hB2.cell (by simp <;> omega)).trans hca0
  replace hfa0 : w2.frozen? ⟨w.heap.size, 0, none⟩ = false := (hB2.frozen (by simp <;> omega)).trans hfa0
  replace hca1 : w2.cell? ⟨w.heap.size, 1, none⟩ = some (.int .u64 h0) := (hB2.cell (by simp <;> omega)).trans hca1
  replace hfa1 : w2.frozen? ⟨w.heap.size, 1, none⟩ = false := (hB2.frozen (by simp <;> omega)).trans hfa1
  replace hca2 : w2.cell? ⟨w.heap.size, 2, none⟩ = some (.int .u64 l0) := (hB2.cell (by simp <;> omega)).trans hca2
  replace hfa2 : w2.frozen? ⟨w.heap.size, 2, none⟩ = false := (hB2.frozen (by simp <;> omega)).trans hfa2
  replace hcb0 : w2.cell? ⟨w.heap.size + 1, 0, none⟩ = some (.bool false) := (hB2.cell (by simp <;> omega)).trans hcb0
  replace hfb0 : w2.frozen? ⟨w.heap.size + 1, 0, none⟩ = false := (hB2.frozen (by simp <;> omega)).trans hfb0
  replace hcb1 : w2.cell? ⟨w.heap.size + 1, 1, none⟩ = some (.int .u64 h1) := (hB2.cell (by simp <;> omega)).trans hcb1
  replace hfb1 : w2.frozen? ⟨w.heap.size + 1, 1, none⟩ = false := (hB2.frozen (by simp <;> omega)).trans hfb1
  replace hcb2 : w2.cell? ⟨w.heap.size + 1, 2, none⟩ = some (.int .u64 l1) := (hB2.cell (by simp <;> omega)).trans hcb2
  replace hfb2 : w2.frozen? ⟨w.heap.size + 1, 2, none⟩ = false := (hB2.frozen (by simp <;> omega)).trans hfb2
  have HB2 : Hid (Below w.heap.size w w2) := HB1.out.trans (hB2.mono (by omega))
  have hs2 := Nat.le_trans hs1 hB2.size
  clear hB2 HB1 hs1
  go_wp2_with fail
  go_ret
  exact ⟨rfl, HB2.out⟩
set_option maxRecDepth 100000 in
set_option maxHeartbeats 1000000 in
theorem specCmp_t_t_f_f (h0 l0 h1 l1 : Int) (z0 : decide (h0 = 0 ∧ l0 = 0) = false) (z1 : decide (h1 = 0 ∧ l1 = 0) = false) (w : World) :
    Calls Tryd.prog 13 #[.agg #[.bool true, .int .u64 h0, .int .u64 l0], .agg #[.bool true, .int .u64 h1, .int .u64 l1]] w fun e w' => e = .returned (.int .i64 (ordV h1 l1 h0 l0)) ∧ Below w.heap.size w w' := by
  go_enter Tryd.func13, Tryd.ntmps13
  go_wp2_with fail
  refine (specZero true h0 l0 _).mono ?_
  rintro e w1 ⟨rfl, hB1⟩
  rw [z0]
  have hca0 : w1.cell? ⟨w.heap.size, 0, none⟩ = some (.bool true) := by rw [hB1.cell (by simp <;> omega)]; go_simp
  have hfa0 : w1.frozen? ⟨w.heap.size, 0, none⟩ = false := by rw [hB1.frozen (by simp <;> omega)]; go_simp
  have hca1 : w1.cell? ⟨w.heap.size, 1, none⟩ = some (.int .u64 h0) := by rw [hB1.cell (by simp <;> omega)]; go_simp
  have hfa1 : w1.frozen? ⟨w.heap.size, 1, none⟩ = false := by rw [hB1.frozen (by simp <;> omega)]; go_simp
  have hca2 : w1.cell? ⟨w.heap.size, 2, none⟩ = some (.int .u64 l0) := by rw [hB1.cell (by simp <;> omega)]; go_simp
  have hfa2 : w1.frozen? ⟨w.heap.size, 2, none⟩ = false := by rw [hB1.frozen (by simp <;> omega)]; go_simp
  have hcb0 : w1.cell? ⟨w.heap.size + 1, 0, none⟩ = some (.bool true) := by rw [hB1.cell (by simp <;> omega)]; go_simp
  have hfb0 : w1.frozen? ⟨w.heap.size + 1, 0, none⟩ = false := by rw [hB1.frozen (by simp <;> omega)]; go_simp
  have hcb1 : w1.cell? ⟨w.heap.size + 1, 1, none⟩ = some (.int .u64 h1) := by rw [hB1.cell (by simp <;> omega)]; go_simp
  have hfb1 : w1.frozen? ⟨w.heap.size + 1, 1, none⟩ = false := by rw [hB1.frozen (by simp <;> omega)]; go_simp
  have hcb2 : w1.cell? ⟨w.heap.size + 1, 2, none⟩ = some (.int .u64 l1) := by rw [hB1.cell (by simp <;> omega)]; go_simp
  have hfb2 : w1.frozen? ⟨w.heap.size + 1, 2, none⟩ = false := by rw [hB1.frozen (by simp <;> omega)]; go_simp
  have HB1 : Hid (Below w.heap.size w w1) := (((Below.refl _ _).alloc (Nat.le_refl _) _).alloc (by simp) _).trans (hB1.mono (by simp <;> omega))
  have hs1 : w.heap.size + 1 + 1 ≤ w1.heap.size := by have := hB1.size; simpa using this
  clear hB1
  go_wp2_with fail
  refine (specZero true h1 l1 _).mono ?_
  rintro e w2 ⟨rfl, hB2⟩
  rw [z1]
  replace hca0 : w2.cell? ⟨w.heap.size, 0, none⟩ = some (.bool true) := (hB2.cell (by simp <;> omega)).trans hca0
  replace hfa0 : w2.frozen? ⟨w.heap.size, 0, none⟩ = false := (hB2.frozen (by simp <;> omega)).trans hfa0
  replace hca1 : w2.cell? ⟨w.heap.size, 1, none⟩ = some (.int .u64 h0) := (hB2.cell (by simp <;> omega)).trans hca1
  replace hfa1 : w2.frozen? ⟨w.heap.size, 1, none⟩ = false := (hB2.frozen (by simp <;> omega)).trans hfa1
  replace hca2 : w2.cell? ⟨w.heap.size, 2, none⟩ = some (.int .u64 l0) := (hB2.cell (by simp <;> omega)).trans hca2
  replace hfa2 : w2.frozen? ⟨w.heap.size, 2, none⟩ = false := (hB2.frozen (by simp <;> omega)).trans hfa2
  replace hcb0 : w2.cell? ⟨w.heap.size + 1, 0, none⟩ = some (.bool true) := (hB2.cell (by simp <;> omega)).trans hcb0
  replace hfb0 : w2.frozen? ⟨w.heap.size + 1, 0, none⟩ = false := (hB2.frozen (by simp <;> omega)).trans hfb0
  replace hcb1 : w2.cell? ⟨w.heap.size + 1, 1, none⟩ = some (.int .u64 h1) := (hB2.cell (by simp <;> omega)).trans hcb1
  replace hfb1 : w2.frozen? ⟨w.heap.size + 1, 1, none⟩ = false := (hB2.frozen (by simp <;> omega)).trans hfb1
  replace hcb2 : w2.cell? ⟨w.heap.size + 1, 2, none⟩ = some (.int .u64 l1) := (hB2.cell (by simp <;> omega)).trans hcb2
  replace hfb2 : w2.frozen? ⟨w.heap.size + 1, 2, none⟩ = false := (hB2.frozen (by simp <;> omega)).trans hfb2
  have HB2 : Hid (Below w.heap.size w w2) := HB1.out.trans (hB2.mono (by omega))
  have hs2 := Nat.le_trans hs1 hB2.size
  clear hB2 HB1 hs1
  go_wp2_with fail
  refine (specOrder true h1 l1 true h0 l0 _).mono ?_
  rintro e w3 ⟨rfl, hB3⟩
  replace hca0 : w3.cell? ⟨w.heap.size, 0, none⟩ = some (.bool true) := (hB3.cell (by simp <;> omega)).trans hca0
  replace hfa0 : w3.frozen? ⟨w.heap.size, 0, none⟩ = false := (hB3.frozen (by simp <;> omega)).trans hfa0
  replace hca1 : w3.cell? ⟨w.heap.size, 1, none⟩ = some (.int .u64 h0) := (hB3.cell (by simp <;> omega)).trans hca1
  replace hfa1 : w3.frozen? ⟨w.heap.size, 1, none⟩ = false := (hB3.frozen (by simp <;> omega)).trans hfa1
  replace hca2 : w3.cell? ⟨w.heap.size, 2, none⟩ = some (.int .u64 l0) := (hB3.cell (by simp <;> omega)).trans hca2
  replace hfa2 : w3.frozen? ⟨w.heap.size, 2, none⟩ = false := (hB3.frozen (by simp <;> omega)).trans hfa2
  replace hcb0 : w3.cell? ⟨w.heap.size + 1, 0, none⟩ = some (.bool true) := (hB3.cell (by simp <;> omega)).trans hcb0
  replace hfb0 : w3.frozen? ⟨w.heap.size + 1, 0, none⟩ = false := (hB3.frozen (by simp <;> omega)).trans hfb0
  replace hcb1 : w3.cell? ⟨w.heap.size + 1, 1, none⟩ = some (.int .u64 h1) := (hB3.cell (by simp <;> omega)).trans hcb1
  replace hfb1 : w3.frozen? ⟨w.heap.size + 1, 1, none⟩ = false := (hB3.frozen (by simp <;> omega)).trans hfb1
  replace hcb2 : w3.cell? ⟨w.heap.size + 1, 2, none⟩ = some (.int .u64 l1) := (hB3.cell (by simp <;> omega)).trans hcb2
  replace hfb2 : w3.frozen? ⟨w.heap.size + 1, 2, none⟩ = false := (hB3.frozen (by simp <;> omega)).trans hfb2
  have HB3 : Hid (Below w.heap.size w w3) := HB2.out.trans (hB3.mono (by omega))
  have hs3 := Nat.le_trans hs2 hB3.size
  clear hB3 HB2 hs2
  go_wp2_with fail
  go_ret
  exact ⟨rfl, HB3.out⟩
set_option maxRecDepth 100000 in
set_option maxHeartbeats 1000000 in
theorem specCmp_t_t_f_t (h0 l0 h1 l1 : Int) (z0 : decide (h0 = 0 ∧ l0 = 0) = false) (z1 : decide (h1 = 0 ∧ l1 = 0) = true) (w : World) :
    Calls Tryd.prog 13 #[.agg #[.bool true, .int .u64 h0, .int .u64 l0], .agg #[.bool true, .int .u64 h1, .int .u64 l1]] w fun e w' => e = .returned (.int .i64 (-1)) ∧ Below w.heap.size w w' := by
  go_enter Tryd.func13, Tryd.ntmps13
  go_wp2_with fail
  refine (specZero true h0 l0 _).mono ?_
  rintro e w1 ⟨rfl, hB1⟩
  rw [z0]
  have hca0 : w1.cell? ⟨w.heap.size, 0, none⟩ = some (.bool true) := by rw [hB1.cell (by simp <;> omega)]; go_simp
  have hfa0 : w1.frozen? ⟨w.heap.size, 0, none⟩ = false := by rw [hB1.frozen (by simp <;> omega)]; go_simp
  have hca1 : w1.cell? ⟨w.heap.size, 1, none⟩ = some (.int .u64 h0) := by rw [hB1.cell (by simp <;> omega)]; go_simp
  have hfa1 : w1.frozen? ⟨w.heap.size, 1, none⟩ = false := by rw [hB1.frozen (by simp <;> omega)]; go_simp
  have hca2 : w1.cell? ⟨w.heap.size, 2, none⟩ = some (.int .u64 l0) := by rw [hB1.cell (by simp <;> omega)]; go_simp
  have hfa2 : w1.frozen? ⟨w.heap.size, 2, none⟩ = false := by rw [hB1.frozen (by simp <;> omega)]; go_simp
  have hcb0 : w1.cell? ⟨w.heap.size + 1, 0, none⟩ = some (.bool true) := by rw [hB1.cell (by simp <;> omega)]; go_simp
  have hfb0 : w1.frozen? ⟨w.heap.size + 1, 0, none⟩ = false := by rw [hB1.frozen (by simp <;> omega)]; go_simp
  have hcb1 : w1.cell? ⟨w.heap.size + 1, 1, none⟩ = some (.int .u64 h1) := by rw [hB1.cell (by simp <;> omega)]; go_simp
  have hfb1 : w1.frozen? ⟨w.heap.size + 1, 1, none⟩ = false := by rw [hB1.frozen (by simp <;> omega)]; go_simp
  have hcb2 : w1.cell? ⟨w.heap.size + 1, 2, none⟩ = some (.int .u64 l1) := by rw [hB1.cell (by simp <;> omega)]; go_simp
  have hfb2 : w1.frozen? ⟨w.heap.size + 1, 2, none⟩ = false := by rw [hB1.frozen (by simp <;> omega)]; go_simp
  have HB1 : Hid (Below w.heap.size w w1) := (((Below.refl _ _).alloc (Nat.le_refl _) _).alloc (by simp) _).trans (hB1.mono (by simp <;> omega))
  have hs1 : w.heap.size + 1 + 1 ≤ w1.heap.size := by have := hB1.size; simpa using this
  clear hB1
  go_wp2_with fail
  refine (specZero true h1 l1 _).mono ?_
  rintro e w2 ⟨rfl, hB2⟩
  rw [z1]
  replace hca0 : w2.cell? ⟨w.heap.size, 0, none⟩ = some (.bool true) := (hB2.cell (by simp <;> omega)).trans hca0
  replace hfa0 : w2.frozen? ⟨w.heap.size, 0, none⟩ = false := (hB2.frozen (by simp <;> omega)).trans hfa0
  replace hca1 : w2.cell? ⟨w.heap.size, 1, none⟩ = some (.int .u64 h0) := (hB2.cell (by simp <;> omega)).trans hca1
  replace hfa1 : w2.frozen? ⟨w.heap.size, 1, none⟩ = false := (hB2.frozen (by simp <;> omega)).trans hfa1
  replace hca2 : w2.cell? ⟨w.heap.size, 2, none⟩ = some (.int .u64 l0) := (hB2.cell (by simp <;> omega)).trans hca2
  replace hfa2 : w2.frozen? ⟨w.heap.size, 2, none⟩ = false := (hB2.frozen (by simp <;> omega)).trans hfa2
  replace hcb0 : w2.cell? ⟨w.heap.size + 1, 0, none⟩ = some (.bool true) := (hB2.cell (by simp <;> omega)).trans hcb0
  replace hfb0 : w2.frozen? ⟨w.heap.size + 1, 0, none⟩ = false := (hB2.frozen (by simp <;> omega)).trans hfb0
  replace hcb1 : w2.cell? ⟨w.heap.size + 1, 1, none⟩ = some (.int .u64 h1) := (hB2.cell (by simp <;> omega)).trans hcb1
  replace hfb1 : w2.frozen? ⟨w.heap.size + 1, 1, none⟩ = false := (hB2.frozen (by simp <;> omega)).trans hfb1
  replace hcb2 : w2.cell? ⟨w.heap.size + 1, 2, none⟩ = some (.int .u64 l1) := (hB2.cell (by simp <;> omega)).trans hcb2
  replace hfb2 : w2.frozen? ⟨w.heap.size + 1, 2, none⟩ = false := (hB2.frozen (by simp <;> omega)).trans hfb2
  have HB2 : Hid (Below w.heap.size w w2) := HB1.out.trans (hB2.mono (by omega))
  have hs2 := Nat.le_trans hs1 hB2.size
  clear hB2 HB1 hs1
  go_wp2_with fail
  go_ret
  exact ⟨rfl, HB2.out⟩
set_option maxRecDepth 100000 in
set_option maxHeartbeats 1000000 in
theorem specCmp_t_t_t_f (h0 l0 h1 l1 : Int) (z0 : decide (h0 = 0 ∧ l0 = 0) = true) (z1 : decide (h1 = 0 ∧ l1 = 0) = false) (w : World) :
    Calls Tryd.prog 13 #[.agg #[.bool true, .int .u64 h0, .int .u64 l0], .agg #[.bool true, .int .u64 h1, .int .u64 l1]] w fun e w' => e = .returned (.int .i64 (1)) ∧ Below w.heap.size w w' := by
  go_enter Tryd.func13, Tryd.ntmps13
  go_wp2_with fail
  refine (specZero true h0 l0 _).mono ?_
  rintro e w1 ⟨rfl, hB1⟩
  rw [z0]
  have hca0 : w1.cell? ⟨w.heap.size, 0, none⟩ = some (.bool true) := by rw [hB1.cell (by simp <;> omega)]; go_simp
  have hfa0 : w1.frozen? ⟨w.heap.size, 0, none⟩ = false := by rw [hB1.frozen (by simp <;> omega)]; go_simp
  have hca1 : w1.cell? ⟨w.heap.size, 1, none⟩ = some (.int .u64 h0) := by rw [hB1.cell (by simp <;> omega)]; go_simp
  have hfa1 : w1.frozen? ⟨w.heap.size, 1, none⟩ = false := by rw [hB1.frozen (by simp <;> omega)]; go_simp
  have hca2 : w1.cell? ⟨w.heap.size, 2, none⟩ = some (.int .u64 l0) := by rw [hB1.cell (by simp <;> omega)]; go_simp
  have hfa2 : w1.frozen? ⟨w.heap.size, 2, none⟩ = false := by rw [hB1.frozen (by simp <;> omega)]; go_simp
  have hcb0 : w1.cell? ⟨w.heap.size + 1, 0, none⟩ = some (.bool true) := by rw [hB1.cell (by simp <;> omega)]; go_simp
  have hfb0 : w1.frozen? ⟨w.heap.size + 1, 0, none⟩ = false := by rw [hB1.frozen (by simp <;> omega)]; go_simp
  have hcb1 : w1.cell? ⟨w.heap.size + 1, 1, none⟩ = some (.int .u64 h1) := by rw [hB1.cell (by simp <;> omega)]; go_simp
  have hfb1 : w1.frozen? ⟨w.heap.size + 1, 1, none⟩ = false := by rw [hB1.frozen (by simp <;> omega)]; go_simp
  have hcb2 : w1.cell? ⟨w.heap.size + 1, 2, none⟩ = some (.int .u64 l1) := by rw [hB1.cell (by simp <;> omega)]; go_simp
  have hfb2 : w1.frozen? ⟨w.heap.size + 1, 2, none⟩ = false := by rw [hB1.frozen (by simp <;> omega)]; go_simp
  have HB1 : Hid (Below w.heap.size w w1) := (((Below.refl _ _).alloc (Nat.le_refl _) _).alloc (by simp) _).trans (hB1.mono (by simp <;> omega))
  have hs1 : w.heap.size + 1 + 1 ≤ w1.heap.size := by have := hB1.size; simpa using this
  clear hB1
  go_wp2_with fail
  refine (specZero true h1 l1 _).mono ?_
  rintro e w2 ⟨rfl, hB2⟩
  rw [z1]
  replace hca0 : w2.cell? ⟨w.heap.size, 0, none⟩ = some (.bool true) := (hB2.cell (by simp <;> omega)).trans hca0
  replace hfa0 : w2.frozen? ⟨w.heap.size, 0, none⟩ = false := (hB2.frozen (by simp <;> omega)).trans hfa0
  replace hca1 : w2.cell? ⟨w.heap.size, 1, none⟩ = some (.int .u64 h0) := (hB2.cell (by simp <;> omega)).trans hca1
  replace hfa1 : w2.frozen? ⟨w.heap.size, 1, none⟩ = false := (hB2.frozen (by simp <;> omega)).trans hfa1
  replace hca2 : w2.cell? ⟨w.heap.size, 2, none⟩ = some (.int .u64 l0) := (hB2.cell (by simp <;> omega)).trans hca2
  replace hfa2 : w2.frozen? ⟨w.heap.size, 2, none⟩ = false := (hB2.frozen (by simp <;> omega)).trans hfa2
  replace hcb0 : w2.cell? ⟨w.heap.size + 1, 0, none⟩ = some (.bool true) := (hB2.cell (by simp <;> omega)).trans hcb0
  replace hfb0 : w2.frozen? ⟨w.heap.size + 1, 0, none⟩ = false := (hB2.frozen (by simp <;> omega)).trans hfb0
  replace hcb1 : w2.cell? ⟨w.heap.size + 1, 1, none⟩ = some (.int .u64 h1) := (hB2.cell (by simp <;> omega)).trans hcb1
  replace hfb1 : w2.frozen? ⟨w.heap.size + 1, 1, none⟩ = false := (hB2.frozen (by simp <;> omega)).trans hfb1
  replace hcb2 : w2.cell? ⟨w.heap.size + 1, 2, none⟩ = some (.int .u64 l1) := (hB2.cell (by simp <;> omega)).trans hcb2
  replace hfb2 : w2.frozen? ⟨w.heap.size + 1, 2, none⟩ = false := (hB2.frozen (by simp <;> omega)).trans hfb2
  have HB2 : Hid (Below w.heap.size w w2) := HB1.out.trans (hB2.mono (by omega))
  have hs2 := Nat.le_trans hs1 hB2.size
  clear hB2 HB1 hs1
  go_wp2_with fail
  go_ret
  exact ⟨rfl, HB2.out⟩
set_option maxRecDepth 100000 in
set_option maxHeartbeats 1000000 in
theorem specCmp_t_t_t_t (h0 l0 h1 l1 : Int) (z0 : decide (h0 = 0 ∧ l0 = 0) = true) (z1 : decide (h1 = 0 ∧ l1 = 0) = true) (w : World) :
    Calls Tryd.prog 13 #[.agg #[.bool true, .int .u64 h0, .int .u64 l0], .agg #[.bool true, .int .u64 h1, .int .u64 l1]] w fun e w' => e = .returned (.int .i64 (ordV h0 l0 h1 l1)) ∧ Below w.heap.size w w' := by
  go_enter Tryd.func13, Tryd.ntmps13
  go_wp2_with fail
  refine (specZero true h0 l0 _).mono ?_
  rintro e w1 ⟨rfl, hB1⟩
  rw [z0]
  have hca0 : w1.cell? ⟨w.heap.size, 0, none⟩ = some (.bool true) := by rw [hB1.cell (by simp <;> omega)]; go_simp
  have hfa0 : w1.frozen? ⟨w.heap.size, 0, none⟩ = false := by rw [hB1.frozen (by simp <;> omega)]; go_simp
  have hca1 : w1.cell? ⟨w.heap.size, 1, none⟩ = some (.int .u64 h0) := by rw [hB1.cell (by simp <;> omega)]; go_simp
  have hfa1 : w1.frozen? ⟨w.heap.size, 1, none⟩ = false := by rw [hB1.frozen (by simp <;> omega)]; go_simp
  have hca2 : w1.cell? ⟨w.heap.size, 2, none⟩ = some (.int .u64 l0) := by rw [hB1.cell (by simp <;> omega)]; go_simp
  have hfa2 : w1.frozen? ⟨w.heap.size, 2, none⟩ = false := by rw [hB1.frozen (by simp <;> omega)]; go_simp
  have hcb0 : w1.cell? ⟨w.heap.size + 1, 0, none⟩ = some (.bool true) := by rw [hB1.cell (by simp <;> omega)]; go_simp
  have hfb0 : w1.frozen? ⟨w.heap.size + 1, 0, none⟩ = false := by rw [hB1.frozen (by simp <;> omega)]; go_simp
  have hcb1 : w1.cell? ⟨w.heap.size + 1, 1, none⟩ = some (.int .u64 h1) := by rw [hB1.cell (by simp <;> omega)]; go_simp
  have hfb1 : w1.frozen? ⟨w.heap.size + 1, 1, none⟩ = false := by rw [hB1.frozen (by simp <;> omega)]; go_simp
  have hcb2 : w1.cell? ⟨w.heap.size + 1, 2, none⟩ = some (.int .u64 l1) := by rw [hB1.cell (by simp <;> omega)]; go_simp
  have hfb2 : w1.frozen? ⟨w.heap.size + 1, 2, none⟩ = false := by rw [hB1.frozen (by simp <;> omega)]; go_simp
  have HB1 : Hid (Below w.heap.size w w1) := (((Below.refl _ _).alloc (Nat.le_refl _) _).alloc (by simp) _).trans (hB1.mono (by simp <;> omega))
  have hs1 : w.heap.size + 1 + 1 ≤ w1.heap.size := by have := hB1.size; simpa using this
  clear hB1
  go_wp2_with fail
  refine (specZero true h1 l1 _).mono ?_
  rintro e w2 ⟨rfl, hB2⟩
  rw [z1]
  replace hca0 : w2.cell? ⟨w.heap.size, 0, none⟩ = some (.bool true) := (hB2.cell (by simp <;> omega)).trans hca0
  replace hfa0 : w2.frozen? ⟨w.heap.size, 0, none⟩ = false := (hB2.frozen (by simp <;> omega)).trans hfa0
  replace hca1 : w2.cell? ⟨w.heap.size, 1, none⟩ = some (.int .u64 h0) := (hB2.cell (by simp <;> omega)).trans hca1
  replace hfa1 : w2.frozen? ⟨w.heap.size, 1, none⟩ = false := (hB2.frozen (by simp <;> omega)).trans hfa1
  replace hca2 : w2.cell? ⟨w.heap.size, 2, none⟩ = some (.int .u64 l0) := (hB2.cell (by simp <;> omega)).trans hca2
  replace hfa2 : w2.frozen? ⟨w.heap.size, 2, none⟩ = false := (hB2.frozen (by simp <;> omega)).trans hfa2
  replace hcb0 : w2.cell? ⟨w.heap.size + 1, 0, none⟩ = some (.bool true) := (hB2.cell (by simp <;> omega)).trans hcb0
  replace hfb0 : w2.frozen? ⟨w.heap.size + 1, 0, none⟩ = false := (hB2.frozen (by simp <;> omega)).trans hfb0
  replace hcb1 : w2.cell? ⟨w.heap.size + 1, 1, none⟩ = some (.int .u64 h1) := (hB2.cell (by simp <;> omega)).trans hcb1
  replace hfb1 : w2.frozen? ⟨w.heap.size + 1, 1, none⟩ = false := (hB2.frozen (by simp <;> omega)).trans hfb1
  replace hcb2 : w2.cell? ⟨w.heap.size + 1, 2, none⟩ = some (.int .u64 l1) := (hB2.cell (by simp <;> omega)).trans hcb2
  replace hfb2 : w2.frozen? ⟨w.heap.size + 1, 2, none⟩ = false := (hB2.frozen (by simp <;> omega)).trans hfb2
  have HB2 : Hid (Below w.heap.size w w2) := HB1.out.trans (hB2.mono (by omega))
  have hs2 := Nat.le_trans hs1 hB2.size
  clear hB2 HB1 hs1
  go_wp2_with fail
  refine (specOrder true h0 l0 true h1 l1 _).mono ?_
  rintro e w3 ⟨rfl, hB3⟩
  replace hca0 : w3.cell? ⟨w.heap.size, 0, none⟩ = some (.bool true) := (hB3.cell (by simp <;> omega)).trans hca0
  replace hfa0 : w3.frozen? ⟨w.heap.size, 0, none⟩ = false := (hB3.frozen (by simp <;> omega)).trans hfa0
  replace hca1 : w3.cell? ⟨w.heap.size, 1, none⟩ = some (.int .u64 h0) := (hB3.cell (by simp <;> omega)).trans hca1
  replace hfa1 : w3.frozen? ⟨w.heap.size, 1, none⟩ = false := (hB3.frozen (by simp <;> omega)).trans hfa1
  replace hca2 : w3.cell? ⟨w.heap.size, 2, none⟩ = some (.int .u64 l0) := (hB3.cell (by simp <;> omega)).trans hca2
  replace hfa2 : w3.frozen? ⟨w.heap.size, 2, none⟩ = false := (hB3.frozen (by simp <;> omega)).trans hfa2
  replace hcb0 : w3.cell? ⟨w.heap.size + 1, 0, none⟩ = some (.bool true) := (hB3.cell (by simp <;> omega)).trans hcb0
  replace hfb0 : w3.frozen? ⟨w.heap.size + 1, 0, none⟩ = false := (hB3.frozen (by simp <;> omega)).trans hfb0
  replace hcb1 : w3.cell? ⟨w.heap.size + 1, 1, none⟩ = some (.int .u64 h1) := (hB3.cell (by simp <;> omega)).trans hcb1
  replace hfb1 : w3.frozen? ⟨w.heap.size + 1, 1, none⟩ = false := (hB3.frozen (by simp <;> omega)).trans hfb1
  replace hcb2 : w3.cell? ⟨w.heap.size + 1, 2, none⟩ = some (.int .u64 l1) := (hB3.cell (by simp <;> omega)).trans hcb2
  replace hfb2 : w3.frozen? ⟨w.heap.size + 1, 2, none⟩ = false := (hB3.frozen (by simp <;> omega)).trans hfb2
  have HB3 : Hid (Below w.heap.size w w3) := HB2.out.trans (hB3.mono (by omega))
  have hs3 := Nat.le_trans hs2 hB3.size
  clear hB3 HB2 hs2
  go_wp2_with fail
  go_ret
  exact ⟨rfl, HB3.out⟩
theorem specCompareWide (n0 : Bool) (h0 l0 : Int) (n1 : Bool) (h1 l1 : Int) (hp0 : 0 ≤ h0) (lp0 : 0 ≤ l0) (lq0 : l0 < 18446744073709551616) (hp1 : 0 ≤ h1) (lp1 : 0 ≤ l1) (lq1 : l1 < 18446744073709551616) (w : World) :
    Calls Tryd.prog 13 #[.agg #[.bool n0, .int .u64 h0, .int .u64 l0], .agg #[.bool n1, .int .u64 h1, .int .u64 l1]] w fun e w' => e = .returned (.int .i64 (cmpV n0 h0 l0 n1 h1 l1)) ∧ Below w.heap.size w w' := by
  by_cases z0 : h0 = 0 ∧ l0 = 0 <;> by_cases z1 : h1 = 0 ∧ l1 = 0 <;> cases n0 <;> cases n1
  · exact (specCmp_f_f_x_x h0 l0 h1 l1  w).mono fun e w' h => ⟨h.1.trans (congrArg (fun z => Ending.returned (.int .i64 z)) (ordV_cmp lp0 lq0 lp1 lq1 (by simp [sv] <;> omega) (by simp [sv] <;> omega))), h.2⟩
  · exact (specCmp_f_t_x_t h0 l0 h1 l1 (decide_eq_true z1) w).mono fun e w' h => ⟨h.1.trans (congrArg (fun z => Ending.returned (.int .i64 z)) (ordV_cmp lp0 lq0 lp1 lq1 (by simp [sv] <;> omega) (by simp [sv] <;> omega))), h.2⟩
  · exact (specCmp_t_f_t_x h0 l0 h1 l1 (decide_eq_true z0) w).mono fun e w' h => ⟨h.1.trans (congrArg (fun z => Ending.returned (.int .i64 z)) (ordV_cmp lp0 lq0 lp1 lq1 (by simp [sv] <;> omega) (by simp [sv] <;> omega))), h.2⟩
  · exact (specCmp_t_t_t_t h0 l0 h1 l1 (decide_eq_true z0) (decide_eq_true z1) w).mono fun e w' h => ⟨h.1.trans (congrArg (fun z => Ending.returned (.int .i64 z)) (ordV_cmp lp0 lq0 lp1 lq1 (by simp [sv] <;> omega) (by simp [sv] <;> omega))), h.2⟩
  · exact (specCmp_f_f_x_x h0 l0 h1 l1  w).mono fun e w' h => ⟨h.1.trans (congrArg (fun z => Ending.returned (.int .i64 z)) (ordV_cmp lp0 lq0 lp1 lq1 (by simp [sv] <;> omega) (by simp [sv] <;> omega))), h.2⟩
  · exact (specCmp_f_t_x_f h0 l0 h1 l1 (decide_eq_false z1) w).mono fun e w' h => ⟨h.1.trans (congrArg (fun z => Ending.returned (.int .i64 z)) (cmpV_gt (by simp [sv]; omega)).symm), h.2⟩
  · exact (specCmp_t_f_t_x h0 l0 h1 l1 (decide_eq_true z0) w).mono fun e w' h => ⟨h.1.trans (congrArg (fun z => Ending.returned (.int .i64 z)) (ordV_cmp lp0 lq0 lp1 lq1 (by simp [sv] <;> omega) (by simp [sv] <;> omega))), h.2⟩
  · exact (specCmp_t_t_t_f h0 l0 h1 l1 (decide_eq_true z0) (decide_eq_false z1) w).mono fun e w' h => ⟨h.1.trans (congrArg (fun z => Ending.returned (.int .i64 z)) (cmpV_gt (by simp [sv]; omega)).symm), h.2⟩
  · exact (specCmp_f_f_x_x h0 l0 h1 l1  w).mono fun e w' h => ⟨h.1.trans (congrArg (fun z => Ending.returned (.int .i64 z)) (ordV_cmp lp0 lq0 lp1 lq1 (by simp [sv] <;> omega) (by simp [sv] <;> omega))), h.2⟩
  · exact (specCmp_f_t_x_t h0 l0 h1 l1 (decide_eq_true z1) w).mono fun e w' h => ⟨h.1.trans (congrArg (fun z => Ending.returned (.int .i64 z)) (ordV_cmp lp0 lq0 lp1 lq1 (by simp [sv] <;> omega) (by simp [sv] <;> omega))), h.2⟩
  · exact (specCmp_t_f_f_x h0 l0 h1 l1 (decide_eq_false z0) w).mono fun e w' h => ⟨h.1.trans (congrArg (fun z => Ending.returned (.int .i64 z)) (cmpV_lt (by simp [sv]; omega)).symm), h.2⟩
  · exact (specCmp_t_t_f_t h0 l0 h1 l1 (decide_eq_false z0) (decide_eq_true z1) w).mono fun e w' h => ⟨h.1.trans (congrArg (fun z => Ending.returned (.int .i64 z)) (cmpV_lt (by simp [sv]; omega)).symm), h.2⟩
  · exact (specCmp_f_f_x_x h0 l0 h1 l1  w).mono fun e w' h => ⟨h.1.trans (congrArg (fun z => Ending.returned (.int .i64 z)) (ordV_cmp lp0 lq0 lp1 lq1 (by simp [sv] <;> omega) (by simp [sv] <;> omega))), h.2⟩
  · exact (specCmp_f_t_x_f h0 l0 h1 l1 (decide_eq_false z1) w).mono fun e w' h => ⟨h.1.trans (congrArg (fun z => Ending.returned (.int .i64 z)) (cmpV_gt (by simp [sv]; omega)).symm), h.2⟩
  · exact (specCmp_t_f_f_x h0 l0 h1 l1 (decide_eq_false z0) w).mono fun e w' h => ⟨h.1.trans (congrArg (fun z => Ending.returned (.int .i64 z)) (cmpV_lt (by simp [sv]; omega)).symm), h.2⟩
  · exact (specCmp_t_t_f_f h0 l0 h1 l1 (decide_eq_false z0) (decide_eq_false z1) w).mono fun e w' h => ⟨h.1.trans (congrArg (fun z => Ending.returned (.int .i64 z)) (cmpV_neg lp0 lq0 lp1 lq1)), h.2⟩
end Go.Proofs.YtapdocfifgnjgaaDoor
