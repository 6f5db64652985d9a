
/-
  Wide numbers of the program: of an int, negated, the product of two ints, as an int.
-/
import Derived.Test.YtapdocfifgnjgaaDoorPk5
namespace Go.Proofs.YtapdocfifgnjgaaDoor
open Go.RowKit

theorem sv_sgV {g : Bool} {x y : Int} (x0 : 0 ≤ x) (y0 : 0 ≤ y) : sv (sgV g x y) (x * 18446744073709551616 + y) = sv g (x * 18446744073709551616 + y) := by
  cases g
  · simp [sgV, sv]
  · by_cases h : x = 0 ∧ y = 0
    · obtain ⟨rfl, rfl⟩ := h
      simp [sgV, sv]
    · have : sgV true x y = true := by simp [sgV]; omega
      rw [this]
theorem sgV_pos {g : Bool} {x y : Int} (x0 : 0 ≤ x) (y0 : 0 ≤ y) (h : sgV g x y = true) : 0 < x ∨ 0 < y := by
  simp [sgV] at h
  omega
theorem mul_sv (a b : Int) : a * b = sv (!(decide (a < 0) == decide (b < 0))) ((a.natAbs : Int) * (b.natAbs : Int)) := by
  by_cases ha : a < 0 <;> by_cases hb : b < 0
  · rw [show (a.natAbs : Int) = -a by omega, show (b.natAbs : Int) = -b by omega]; simp [sv, ha, hb]; try grind
  · rw [show (a.natAbs : Int) = -a by omega, show (b.natAbs : Int) = b by omega]; simp [sv, ha, hb]; try grind
  · rw [show (a.natAbs : Int) = a by omega, show (b.natAbs : Int) = -b by omega]; simp [sv, ha, hb]; try grind
  · rw [show (a.natAbs : Int) = a by omega, show (b.natAbs : Int) = b by omega]; simp [sv, ha, hb]; try grind
theorem negV_ok {n : Bool} {h l : Int} (h0 : 0 ≤ h) (l0 : 0 ≤ l) (k : okV n h l = true) : negV n h l = sgV (!n) h l := by
  have k2 := (okV_yes k).2
  unfold negV sgV
  by_cases z : h = 0 ∧ l = 0
  · obtain ⟨rfl, rfl⟩ := z
    cases n
    · simp
    · exact absurd (k2 rfl) (by omega)
  · rw [if_pos ⟨k, z⟩]
    have : (decide (h = 0) && decide (l = 0)) = false := by simp; omega
    rw [this]; simp
theorem negV_no {n : Bool} {h l : Int} (k : ¬ okV n h l = true) : negV n h l = n := by unfold negV; rw [if_neg (fun j => k j.1)]

set_option maxRecDepth 100000 in
theorem implWideOf (x : Int) (x0 : -9223372036854775808 ≤ x) (x1 : x ≤ 9223372036854775807) (w : World) :
    Calls Tryd.prog 80 #[.int .i64 x] w fun e w' => e = .returned (.agg #[.bool (decide (x < 0)), .int .u64 0, .int .u64 x.natAbs]) ∧ Below w.heap.size w w' := by
  go_enter Tryd.func80, Tryd.ntmps80
  go_wp2_with fail
  refine (implMagnitude x x0 x1 _).mono ?_
  rintro e w1 ⟨rfl, hB⟩
  have hk := box_kept hB
  have HB := Lib.hid (box_below hB)
  have hca0 := cell_blk hk 0
  have hfa0 := free_blk hk 0
  have hca1 := cell_blk hk 1
  have hfa1 := free_blk hk 1
  have hca2 := cell_blk hk 2
  have hfa2 := free_blk hk 2
  clear hk hB
  go_wp2_with fail
  (try simp only [Exit.inBlock, Exit.then])
  refine bodyPost_ret (v := .agg #[.bool (decide (x < 0)), .int .u64 0, .int .u64 x.natAbs]) ?_ rfl ⟨rfl, ?_⟩
  · rw [results_cell rfl]
    go_simp
  · repeat' (first | exact HB.out | exact Below.refl _ _ | refine Below.alloc ?_ (by simp <;> omega) _ | refine Below.setCell ?_ (by simp <;> omega) _)
theorem implWideOfW (x : Int) (x0 : -9223372036854775808 ≤ x) (x1 : x ≤ 9223372036854775807) (w : World) :
    Calls Tryd.prog 80 #[.int .i64 x] w fun e w' => e = .returned (wideC x) ∧ Below w.heap.size w w' := by
  refine (implWideOf x x0 x1 w).mono fun e w' k => ⟨k.1.trans ?_, k.2⟩
  rw [wideC, show (x.natAbs : Int) / 18446744073709551616 = 0 by omega, show (x.natAbs : Int) % 18446744073709551616 = x.natAbs by omega]
set_option maxRecDepth 100000 in
theorem implMulWide (a b : Int) (a0 : -9223372036854775808 ≤ a) (a1 : a ≤ 9223372036854775807) (b0 : -9223372036854775808 ≤ b) (b1 : b ≤ 9223372036854775807) (w : World) :
    Calls Tryd.prog 31 #[.int .i64 a, .int .i64 b] w fun e w' => e = .returned (wideC (a * b)) ∧ Below w.heap.size w w' := by
  go_enter Tryd.func31, Tryd.ntmps31
  go_wp2_with fail
  refine (implMagnitude a a0 a1 _).mono ?_
  rintro e w1 ⟨rfl, hB1⟩
  have HB1 := box_below hB1
  have hk := box_kept hB1
  clear hB1
  go_wp2_with fail
  refine (implMagnitude b b0 b1 _).mono ?_
  rintro e w2 ⟨rfl, hB2⟩
  replace hk := box_still hk hB2
  have HB2 := bt2 HB1 hB2
  clear HB1 hB2
  go_wp2_with fail
  refine (implMul64 _ _ (by omega) (by omega) (by omega) (by omega) _).mono ?_
  rintro e w3 ⟨⟨x, y, x0, x1, y0, y1, hxy, rfl⟩, hB3⟩
  replace hk := box_still hk hB3
  have HB3 := Lib.hid (bt2 HB2 hB3)
  have HXY := Lib.hid hxy
  clear HB2 hB3 hxy
  go_wp2_with fail
  refine (implWithSign _ false x y _).mono ?_
  rintro e w4 ⟨rfl, hB4⟩
  replace hk := box_still hk hB4
  have HB := Lib.hid (bt2 HB3.out hB4)
  have hca0 : w4.cell? ⟨w.heap.size, 0, none⟩ = some (.bool false) := cell_blk hk 0
  have hfa0 := free_blk hk 0
  have hca1 : w4.cell? ⟨w.heap.size, 1, none⟩ = some (.int .u64 0) := cell_blk hk 1
  have hfa1 := free_blk hk 1
  have hca2 : w4.cell? ⟨w.heap.size, 2, none⟩ = some (.int .u64 0) := cell_blk hk 2
  have hfa2 := free_blk hk 2
  clear hk hB4 HB3
  go_wp2_with fail
  (try simp only [Exit.inBlock, Exit.then])
  refine bodyPost_ret (v := .agg #[.bool (sgV (!(decide (a < 0) == decide (b < 0))) x y), .int .u64 x, .int .u64 y]) ?_ rfl ⟨congrArg Ending.returned (wideC_eq x0 y0 y1 (sgV_pos x0 y0) (by rw [sv_sgV x0 y0, HXY.out]; exact mul_sv a b)), ?_⟩
  · rw [results_cell rfl]
    go_simp
  · repeat' (first | exact HB.out | exact Below.refl _ _ | refine Below.alloc ?_ (by simp <;> omega) _ | refine Below.setCell ?_ (by simp <;> omega) _)
set_option maxRecDepth 100000 in
theorem implNeg_ok (n0 : Bool) (h0 l0 : Int) (hp0 : 0 ≤ h0) (lp0 : 0 ≤ l0) (hk : okV n0 h0 l0 = true) (w : World) :
    Calls Tryd.prog 42 #[.agg #[.bool n0, .int .u64 h0, .int .u64 l0]] w fun e w' => e = .returned (.agg #[.bool (sgV (!n0) h0 l0), .int .u64 h0, .int .u64 l0]) ∧ Below w.heap.size w w' := by
  go_enter Tryd.func42, Tryd.ntmps42
  go_wp2_with fail
  refine (implWideOk n0 h0 l0 hp0 lp0 _).mono ?_
  rintro e w1 ⟨rfl, hB1⟩
  rw [hk]
  have hca0 : w1.cell? ⟨w.heap.size, 0, none⟩ = some (.bool n0) := by rw [hB1.cell (by simp <;> omega)]; go_simp
  have hfa0 : w1.frozen? ⟨w.heap.size, 0, none⟩ = false := by rw [hB1.frozen (by simp <;> omega)]; go_simp
  have hca1 : w1.cell? ⟨w.heap.size, 1, none⟩ = some (.int .u64 h0) := by rw [hB1.cell (by simp <;> omega)]; go_simp
  have hfa1 : w1.frozen? ⟨w.heap.size, 1, none⟩ = false := by rw [hB1.frozen (by simp <;> omega)]; go_simp
  have hca2 : w1.cell? ⟨w.heap.size, 2, none⟩ = some (.int .u64 l0) := by rw [hB1.cell (by simp <;> omega)]; go_simp
  have hfa2 : w1.frozen? ⟨w.heap.size, 2, none⟩ = false := by rw [hB1.frozen (by simp <;> omega)]; go_simp
  have hcr0 : w1.cell? ⟨w.heap.size + 1, 0, none⟩ = some (.bool false) := by rw [hB1.cell (by simp <;> omega)]; go_simp
  have hfr0 : w1.frozen? ⟨w.heap.size + 1, 0, none⟩ = false := by rw [hB1.frozen (by simp <;> omega)]; go_simp
  have hcr1 : w1.cell? ⟨w.heap.size + 1, 1, none⟩ = some (.int .u64 0) := by rw [hB1.cell (by simp <;> omega)]; go_simp
  have hfr1 : w1.frozen? ⟨w.heap.size + 1, 1, none⟩ = false := by rw [hB1.frozen (by simp <;> omega)]; go_simp
  have hcr2 : w1.cell? ⟨w.heap.size + 1, 2, none⟩ = some (.int .u64 0) := by rw [hB1.cell (by simp <;> omega)]; go_simp
  have hfr2 : w1.frozen? ⟨w.heap.size + 1, 2, none⟩ = false := by rw [hB1.frozen (by simp <;> omega)]; go_simp
  have HB1 : Hid (Below w.heap.size w w1) := (((Below.refl _ _).alloc (Nat.le_refl _) _).alloc (by simp) _).trans (hB1.mono (by simp <;> omega))
  have hs1 : w.heap.size + 1 + 1 ≤ w1.heap.size := by have := hB1.size; simpa using this
  clear hB1
  go_wp2_with fail
  refine (implWithSign _ n0 h0 l0 _).mono ?_
  rintro e w2 ⟨rfl, hB2⟩
  replace hcr0 : w2.cell? ⟨w.heap.size + 1, 0, none⟩ = some (.bool false) := (hB2.cell (by simp <;> omega)).trans hcr0
  replace hfr0 : w2.frozen? ⟨w.heap.size + 1, 0, none⟩ = false := (hB2.frozen (by simp <;> omega)).trans hfr0
  replace hcr1 : w2.cell? ⟨w.heap.size + 1, 1, none⟩ = some (.int .u64 0) := (hB2.cell (by simp <;> omega)).trans hcr1
  replace hfr1 : w2.frozen? ⟨w.heap.size + 1, 1, none⟩ = false := (hB2.frozen (by simp <;> omega)).trans hfr1
  replace hcr2 : w2.cell? ⟨w.heap.size + 1, 2, none⟩ = some (.int .u64 0) := (hB2.cell (by simp <;> omega)).trans hcr2
  replace hfr2 : w2.frozen? ⟨w.heap.size + 1, 2, none⟩ = false := (hB2.frozen (by simp <;> omega)).trans hfr2
  have HB2 : Hid (Below w.heap.size w w2) := Lib.hid (HB1.out.trans (hB2.mono (by omega)))
  have hs2 := Nat.le_trans hs1 hB2.size
  clear hB2 HB1 hs1
  have HB := HB2
  clear HB2
  go_wp2_with fail
  (try simp only [Exit.inBlock, Exit.then])
  refine bodyPost_ret (v := .agg #[.bool (sgV (!n0) h0 l0), .int .u64 h0, .int .u64 l0]) ?_ rfl ⟨rfl, ?_⟩
  · rw [results_cell rfl]
    go_simp
  · repeat' (first | exact HB.out | exact Below.refl _ _ | refine Below.alloc ?_ (by simp <;> omega) _ | refine Below.setCell ?_ (by simp <;> omega) _)
set_option maxRecDepth 100000 in
theorem implNeg_no (n0 : Bool) (h0 l0 : Int) (hp0 : 0 ≤ h0) (lp0 : 0 ≤ l0) (hk : okV n0 h0 l0 = false) (w : World) :
    Calls Tryd.prog 42 #[.agg #[.bool n0, .int .u64 h0, .int .u64 l0]] w fun e w' => e = .returned (.agg #[.bool (n0), .int .u64 h0, .int .u64 l0]) ∧ Below w.heap.size w w' := by
  go_enter Tryd.func42, Tryd.ntmps42
  go_wp2_with fail
  refine (implWideOk n0 h0 l0 hp0 lp0 _).mono ?_
  rintro e w1 ⟨rfl, hB1⟩
  rw [hk]
  have hca0 : w1.cell? ⟨w.heap.size, 0, none⟩ = some (.bool n0) := by rw [hB1.cell (by simp <;> omega)]; go_simp
  have hfa0 : w1.frozen? ⟨w.heap.size, 0, none⟩ = false := by rw [hB1.frozen (by simp <;> omega)]; go_simp
  have hca1 : w1.cell? ⟨w.heap.size, 1, none⟩ = some (.int .u64 h0) := by rw [hB1.cell (by simp <;> omega)]; go_simp
  have hfa1 : w1.frozen? ⟨w.heap.size, 1, none⟩ = false := by rw [hB1.frozen (by simp <;> omega)]; go_simp
  have hca2 : w1.cell? ⟨w.heap.size, 2, none⟩ = some (.int .u64 l0) := by rw [hB1.cell (by simp <;> omega)]; go_simp
  have hfa2 : w1.frozen? ⟨w.heap.size, 2, none⟩ = false := by rw [hB1.frozen (by simp <;> omega)]; go_simp
  have hcr0 : w1.cell? ⟨w.heap.size + 1, 0, none⟩ = some (.bool false) := by rw [hB1.cell (by simp <;> omega)]; go_simp
  have hfr0 : w1.frozen? ⟨w.heap.size + 1, 0, none⟩ = false := by rw [hB1.frozen (by simp <;> omega)]; go_simp
  have hcr1 : w1.cell? ⟨w.heap.size + 1, 1, none⟩ = some (.int .u64 0) := by rw [hB1.cell (by simp <;> omega)]; go_simp
  have hfr1 : w1.frozen? ⟨w.heap.size + 1, 1, none⟩ = false := by rw [hB1.frozen (by simp <;> omega)]; go_simp
  have hcr2 : w1.cell? ⟨w.heap.size + 1, 2, none⟩ = some (.int .u64 0) := by rw [hB1.cell (by simp <;> omega)]; go_simp
  have hfr2 : w1.frozen? ⟨w.heap.size + 1, 2, none⟩ = false := by rw [hB1.frozen (by simp <;> omega)]; go_simp
  have HB1 : Hid (Below w.heap.size w w1) := (((Below.refl _ _).alloc (Nat.le_refl _) _).alloc (by simp) _).trans (hB1.mono (by simp <;> omega))
  have hs1 : w.heap.size + 1 + 1 ≤ w1.heap.size := by have := hB1.size; simpa using this
  clear hB1
  go_wp2_with fail
  have HB := HB1
  clear HB1
  (try simp only [Exit.inBlock, Exit.then])
  refine bodyPost_ret (v := .agg #[.bool (n0), .int .u64 h0, .int .u64 l0]) ?_ rfl ⟨rfl, ?_⟩
  · rw [results_cell rfl]
    go_simp
  · repeat' (first | exact HB.out | exact Below.refl _ _ | refine Below.alloc ?_ (by simp <;> omega) _ | refine Below.setCell ?_ (by simp <;> omega) _)
theorem implNegWide (n0 : Bool) (h0 l0 : Int) (hp0 : 0 ≤ h0) (lp0 : 0 ≤ l0) (w : World) :
    Calls Tryd.prog 42 #[.agg #[.bool n0, .int .u64 h0, .int .u64 l0]] w fun e w' => e = .returned (.agg #[.bool (negV n0 h0 l0), .int .u64 h0, .int .u64 l0]) ∧ Below w.heap.size w w' := by
  by_cases hk : okV n0 h0 l0 = true
  · rw [negV_ok hp0 lp0 hk]; exact implNeg_ok n0 h0 l0 hp0 lp0 hk w
  · rw [negV_no hk]; exact implNeg_no n0 h0 l0 hp0 lp0 (by simpa using hk) w
theorem implWideOfS (W : World) (a : Nat) (p q r : Value) (x : Int) (x0 : -9223372036854775808 ≤ x) (x1 : x ≤ 9223372036854775807) (s : Bool) (hs : decide (x < 0) = s) (wr : World)
    (h : wr.cell? ⟨a, 0, none⟩ = some p ∧ wr.cell? ⟨a, 1, none⟩ = some q ∧ wr.cell? ⟨a, 2, none⟩ = some r ∧ Below W.heap.size W wr) :
    Calls Tryd.prog 80 #[.int .i64 x] wr fun e w' => e = .returned (.agg #[.bool s, .int .u64 0, .int .u64 x.natAbs]) ∧ w'.cell? ⟨a, 0, none⟩ = some p ∧ w'.cell? ⟨a, 1, none⟩ = some q ∧ w'.cell? ⟨a, 2, none⟩ = some r ∧ Below W.heap.size W w' :=
  (implWideOf x x0 x1 wr).mono fun e w' k => ⟨by rw [k.1, hs], below_cell h.1 k.2, below_cell h.2.1 k.2, below_cell h.2.2.1 k.2, bt2 h.2.2.2 k.2⟩
end Go.Proofs.YtapdocfifgnjgaaDoor
