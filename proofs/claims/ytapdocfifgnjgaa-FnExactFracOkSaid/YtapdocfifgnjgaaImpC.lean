
/-
  Wide numbers of the program: of an int, negated, the product of two ints, as an int.
-/
import Derived.Test.YtapdocfifgnjgaaImpB
namespace Go.Proofs.Ytapdocfifgnjgaa
open Go.RowKit

theorem sv_sgV {g : Bool} {x y : Int} (x0 : 0 ≤ x) (y0 : 0 ≤ y) : sv (sgV g x y) (x * 18446744073709551616 + y) = sv g (x * 18446744073709551616 + y) := by
  cases g
  · simp [sgV, sv]
  · by_cases h : x = 0 ∧ y = 0
    · obtain ⟨rfl, rfl⟩ := h
      simp [sgV, sv]
    · have : sgV true x y = true := by simp [sgV]; omega
      rw [this]
theorem sgV_pos {g : Bool} {x y : Int} (x0 : 0 ≤ x) (y0 : 0 ≤ y) (h : sgV g x y = true) : 0 < x ∨ 0 < y := by
  simp [sgV] at h
  omega
theorem mul_sv (a b : Int) : a * b = sv (!(decide (a < 0) == decide (b < 0))) ((a.natAbs : Int) * (b.natAbs : Int)) := by
  by_cases ha : a < 0 <;> by_cases hb : b < 0
  · rw [show (a.natAbs : Int) = -a by omega, show (b.natAbs : Int) = -b by omega]; simp [sv, ha, hb]; try grind
  · rw [show (a.natAbs : Int) = -a by omega, show (b.natAbs : Int) = b by omega]; simp [sv, ha, hb]; try grind
  · rw [show (a.natAbs : Int) = a by omega, show (b.natAbs : Int) = -b by omega]; simp [sv, ha, hb]; try grind
  · rw [show (a.natAbs : Int) = a by omega, show (b.natAbs : Int) = b by omega]; simp [sv, ha, hb]; try grind
theorem negV_ok {n : Bool} {h l : Int} (h0 : 0 ≤ h) (l0 : 0 ≤ l) (k : okV n h l = true) : negV n h l = sgV (!n) h l := by
  have k2 := (okV_yes k).2
  unfold negV sgV
  by_cases z : h = 0 ∧ l = 0
  · obtain ⟨rfl, rfl⟩ := z
    cases n
    · simp
    · exact absurd (k2 rfl) (by omega)
  · rw [if_pos ⟨k, z⟩]
    have : (decide (h = 0) && decide (l = 0)) = false := by simp; omega
    rw [this]; simp
theorem negV_no {n : Bool} {h l : Int} (k : ¬ okV n h l = true) : negV n h l = n := by unfold negV; rw [if_neg (fun j => k j.1)]

set_option maxRecDepth 100000 in
theorem implMulWide (a b : Int) (a0 : -9223372036854775808 ≤ a) (a1 : a ≤ 9223372036854775807) (b0 : -9223372036854775808 ≤ b) (b1 : b ≤ 9223372036854775807) (w : World) :
    Calls Try.prog 33 #[.int .i64 a, .int .i64 b] w fun e w' => e = .returned (wideC (a * b)) ∧ Below w.heap.size w w' := by
  go_enter Try.func33, Try.ntmps33
  go_wp2_with fail
  refine (implMagnitude a a0 a1 _).mono ?_
  rintro e w1 ⟨rfl, hB1⟩
  have HB1 := box_below hB1
  have hk := box_kept hB1
  clear hB1
  go_wp2_with fail
  refine (implMagnitude b b0 b1 _).mono ?_
  rintro e w2 ⟨rfl, hB2⟩
  replace hk := box_still hk hB2
  have HB2 := bt2 HB1 hB2
  clear HB1 hB2
  go_wp2_with fail
  refine (implMul64 _ _ (by omega) (by omega) (by omega) (by omega) _).mono ?_
  rintro e w3 ⟨⟨x, y, x0, x1, y0, y1, hxy, rfl⟩, hB3⟩
  replace hk := box_still hk hB3
  have HB3 := Lib.hid (bt2 HB2 hB3)
  have HXY := Lib.hid hxy
  clear HB2 hB3 hxy
  go_wp2_with fail
  refine (implWithSign _ false x y _).mono ?_
  rintro e w4 ⟨rfl, hB4⟩
  replace hk := box_still hk hB4
  have HB := Lib.hid (bt2 HB3.out hB4)
  have hca0 : w4.cell? ⟨w.heap.size, 0, none⟩ = some (.bool false) := cell_blk hk 0
  have hfa0 := free_blk hk 0
  have hca1 : w4.cell? ⟨w.heap.size, 1, none⟩ = some (.int .u64 0) := cell_blk hk 1
  have hfa1 := free_blk hk 1
  have hca2 : w4.cell? ⟨w.heap.size, 2, none⟩ = some (.int .u64 0) := cell_blk hk 2
  have hfa2 := free_blk hk 2
  clear hk hB4 HB3
  go_wp2_with fail
  (try simp only [Exit.inBlock, Exit.then])
  refine bodyPost_ret (v := .agg #[.bool (sgV (!(decide (a < 0) == decide (b < 0))) x y), .int .u64 x, .int .u64 y]) ?_ rfl ⟨congrArg Ending.returned (wideC_eq x0 y0 y1 (sgV_pos x0 y0) (by rw [sv_sgV x0 y0, HXY.out]; exact mul_sv a b)), ?_⟩
  · rw [results_cell rfl]
    go_simp
  · repeat' (first | exact HB.out | exact Below.refl _ _ | refine Below.alloc ?_ (by simp <;> omega) _ | refine Below.setCell ?_ (by simp <;> omega) _)
end Go.Proofs.Ytapdocfifgnjgaa
