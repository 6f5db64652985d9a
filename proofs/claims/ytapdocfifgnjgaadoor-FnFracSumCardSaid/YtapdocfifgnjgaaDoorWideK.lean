
/-
  Wide numbers of the reference: a wide number times an int.
-/
import Derived.Test.YtapdocfifgnjgaaDoorWideC
namespace Go.Proofs.YtapdocfifgnjgaaDoor
open Go.RowKit

theorem specProductAt (a b x y : Int) (a0 : 0 ≤ a) (a1 : a < 18446744073709551616) (b0 : 0 ≤ b) (b1 : b < 18446744073709551616) (y0 : 0 ≤ y) (y1 : y < 18446744073709551616) (hxy : x * 18446744073709551616 + y = a * b) (w : World) :
    Calls Tryd.prog 74 #[.int .u64 a, .int .u64 b] w fun e w' => e = .returned (.tuple #[.int .u64 x, .int .u64 y]) ∧ Below w.heap.size w w' := by
  refine (specProduct a b a0 a1 b0 b1 w).mono ?_
  rintro e w1 ⟨⟨x', y', p0, p1, q0, q1, h, rfl⟩, hB⟩
  obtain rfl : x = x' := by omega
  obtain rfl : y = y' := by omega
  exact ⟨rfl, hB⟩
theorem split128 (a b : Int) (a0 : 0 ≤ a) (a1 : a < 18446744073709551616) (b0 : 0 ≤ b) (b1 : b < 18446744073709551616) :
    ∃ x y : Int, 0 ≤ x ∧ x < 18446744073709551616 ∧ 0 ≤ y ∧ y < 18446744073709551616 ∧ x * 18446744073709551616 + y = a * b := by
  have h0 := Int.mul_nonneg a0 b0
  have h1 : a * b ≤ 18446744073709551615 * 18446744073709551615 := Int.mul_le_mul (by omega) (by omega) b0 (by omega)
  exact ⟨a * b / 18446744073709551616, a * b % 18446744073709551616, by omega, by omega, by omega, by omega, by omega⟩
noncomputable def scaleE (n : Bool) (h l k : Int) : Ending :=
  if okV n h l = true then fitW (sv n (h * 18446744073709551616 + l) * k) else .returned (.tuple #[.agg #[.bool false, .int .u64 0, .int .u64 0], .bool false])
theorem scaleE_ok {n : Bool} {h l k : Int} {e : Ending} (a : okV n h l = true) (x : e = fitW (sv n (h * 18446744073709551616 + l) * k)) : e = scaleE n h l k := by rw [scaleE, if_pos a, x]
theorem sv_abs (n : Bool) {m : Int} (h : 0 ≤ m) : ((sv n m).natAbs : Int) = m := by cases n <;> simp [sv] <;> omega
theorem scale_abs {n : Bool} {h l k x y c d : Int} (h0 : 0 ≤ h) (l0 : 0 ≤ l) (hx : x * 18446744073709551616 + y = h * (k.natAbs : Int)) (hc : c * 18446744073709551616 + d = l * (k.natAbs : Int)) :
    ((sv n (h * 18446744073709551616 + l) * k).natAbs : Int) = x * 340282366920938463463374607431768211456 + (y + c) * 18446744073709551616 + d := by
  rw [abs_mul, sv_abs n (by omega)]
  grind
theorem scale_sgn {n : Bool} {m k : Int} (hm : 0 < m) (hk : k ≠ 0) : (!(n == decide (k < 0))) = decide (sv n m * k < 0) := by
  cases n
  · by_cases h : k < 0
    · have := Int.mul_neg_of_pos_of_neg hm h
      simp [sv, h, this]
    · have := Int.mul_pos hm (show 0 < k by omega)
      simp [sv, h]; omega
  · by_cases h : k < 0
    · have := Int.mul_pos_of_neg_of_neg (show -m < 0 by omega) h
      simp [sv, h] at this ⊢; omega
    · have := Int.mul_neg_of_neg_of_pos (show -m < 0 by omega) (show 0 < k by omega)
      simp [sv, h] at this ⊢; omega
theorem sv_self (z : Int) : z = sv (decide (z < 0)) z.natAbs := by by_cases h : z < 0 <;> simp [sv, h] <;> omega
/-- The parts of a product that has room. -/
theorem scale_yes {n s : Bool} {h l k x y c d : Int} (h0 : 0 ≤ h) (l0 : 0 ≤ l) (hx : x * 18446744073709551616 + y = h * (k.natAbs : Int)) (hc : c * 18446744073709551616 + d = l * (k.natAbs : Int)) (hs : (!(n == decide (k < 0))) = s)
    (x0 : x = 0) (hnz : ¬ (y + c = 0 ∧ d = 0)) (yc0 : 0 ≤ y + c) (yc1 : y + c < 9223372036854775808) (d0 : 0 ≤ d) (d1 : d < 18446744073709551616) (hk : okV n h l = true) :
    Ending.returned (.tuple #[.agg #[.bool s, .int .u64 (y + c), .int .u64 d], .bool true]) = scaleE n h l k := by
  refine scaleE_ok hk (fitW_yes yc0 yc1 d0 d1 (fun _ => by omega) ?_)
  have ha := scale_abs (n := n) h0 l0 hx hc
  have hk0 : k ≠ 0 := fun e => by subst e; simp at hx hc; omega
  have hm : 0 < h * 18446744073709551616 + l := by
    by_cases q : 0 < h * 18446744073709551616 + l
    · exact q
    · have e1 : h = 0 := by omega
      have e2 : l = 0 := by omega
      subst e1 e2
      simp at hx hc
      omega
  rw [← hs, scale_sgn (n := n) hm hk0]
  have := sv_self (sv n (h * 18446744073709551616 + l) * k)
  rw [ha, x0] at this
  simpa using this
theorem scale_zero {n : Bool} {h l k x y c d : Int} (h0 : 0 ≤ h) (l0 : 0 ≤ l) (hx : x * 18446744073709551616 + y = h * (k.natAbs : Int)) (hc : c * 18446744073709551616 + d = l * (k.natAbs : Int))
    (x0 : x = 0) (hz : y + c = 0 ∧ d = 0) (hk : okV n h l = true) :
    Ending.returned (.tuple #[.agg #[.bool false, .int .u64 (y + c), .int .u64 d], .bool true]) = scaleE n h l k := by
  refine scaleE_ok hk (fitW_yes (by omega) (by omega) (by omega) (by omega) (fun k => by cases k) ?_)
  have ha := scale_abs (n := n) h0 l0 hx hc
  rw [x0, hz.1, hz.2] at ha
  have h1 : sv n (h * 18446744073709551616 + l) * k = 0 := by omega
  rw [hz.1, hz.2, h1]
  simp [sv]
theorem scale_no {n : Bool} {h l k x y c d : Int} (h0 : 0 ≤ h) (l0 : 0 ≤ l) (hx : x * 18446744073709551616 + y = h * (k.natAbs : Int)) (hc : c * 18446744073709551616 + d = l * (k.natAbs : Int))
    (x0 : 0 ≤ x) (yc0 : 0 ≤ y + c) (d0 : 0 ≤ d) (hb : 0 < x ∨ 9223372036854775808 ≤ y + c) (hk : okV n h l = true) :
    Ending.returned (.tuple #[.agg #[.bool false, .int .u64 0, .int .u64 0], .bool false]) = scaleE n h l k := by
  refine scaleE_ok hk (fitW_no ?_)
  have ha := scale_abs (n := n) h0 l0 hx hc
  unfold RoomW
  rw [ha]
  omega

set_option maxRecDepth 100000 in
set_option maxHeartbeats 1000000 in
theorem specScale_no (n0 : Bool) (h0 l0 k : Int) (hk0 : okV n0 h0 l0 = false) (w : World) :
    Calls Tryd.prog 48 #[.agg #[.bool n0, .int .u64 h0, .int .u64 l0], .int .i64 k] w fun e w' => e = scaleE n0 h0 l0 k ∧ Below w.heap.size w w' := by
  go_enter Tryd.func48, Tryd.ntmps48
  go_wp2_with fail
  refine (specWideOk n0 h0 l0 _).mono ?_
  rintro e w1 ⟨rfl, hB1⟩
  rw [hk0]
  have hca0 : w1.cell? ⟨w.heap.size, 0, none⟩ = some (.bool n0) := by rw [hB1.cell (by simp <;> omega)]; go_simp
  have hfa0 : w1.frozen? ⟨w.heap.size, 0, none⟩ = false := by rw [hB1.frozen (by simp <;> omega)]; go_simp
  have hca1 : w1.cell? ⟨w.heap.size, 1, none⟩ = some (.int .u64 h0) := by rw [hB1.cell (by simp <;> omega)]; go_simp
  have hfa1 : w1.frozen? ⟨w.heap.size, 1, none⟩ = false := by rw [hB1.frozen (by simp <;> omega)]; go_simp
  have hca2 : w1.cell? ⟨w.heap.size, 2, none⟩ = some (.int .u64 l0) := by rw [hB1.cell (by simp <;> omega)]; go_simp
  have hfa2 : w1.frozen? ⟨w.heap.size, 2, none⟩ = false := by rw [hB1.frozen (by simp <;> omega)]; go_simp
  have hcr0 : w1.cell? ⟨w.heap.size + 1, 0, none⟩ = some (.bool false) := by rw [hB1.cell (by simp <;> omega)]; go_simp
  have hfr0 : w1.frozen? ⟨w.heap.size + 1, 0, none⟩ = false := by rw [hB1.frozen (by simp <;> omega)]; go_simp
  have hcr1 : w1.cell? ⟨w.heap.size + 1, 1, none⟩ = some (.int .u64 0) := by rw [hB1.cell (by simp <;> omega)]; go_simp
  have hfr1 : w1.frozen? ⟨w.heap.size + 1, 1, none⟩ = false := by rw [hB1.frozen (by simp <;> omega)]; go_simp
  have hcr2 : w1.cell? ⟨w.heap.size + 1, 2, none⟩ = some (.int .u64 0) := by rw [hB1.cell (by simp <;> omega)]; go_simp
  have hfr2 : w1.frozen? ⟨w.heap.size + 1, 2, none⟩ = false := by rw [hB1.frozen (by simp <;> omega)]; go_simp
  have HB1 : Hid (Below w.heap.size w w1) := (((Below.refl _ _).alloc (Nat.le_refl _) _).alloc (by simp) _).trans (hB1.mono (by simp <;> omega))
  have hs1 : w.heap.size + 1 + 1 ≤ w1.heap.size := by have := hB1.size; simpa using this
  clear hB1
  go_wp2_with fail
  (try simp only [Exit.inBlock, Exit.then])
  refine bodyPost_ret (v := .tuple #[.agg #[.bool false, .int .u64 0, .int .u64 0], .bool false]) ?_ rfl ⟨(if_neg (by simp [hk0])).symm, ?_⟩
  · rw [results_cell_tmp rfl]
    go_simp
  · repeat' (first | assumption | exact Below.refl _ _ | exact HB1.out | refine Below.alloc ?_ (by simp <;> omega) _ | refine Below.setCell ?_ (by simp <;> omega) _)
set_option maxRecDepth 100000 in
set_option maxHeartbeats 2000000 in
theorem specScale_z_big (n0 : Bool) (h0 l0 k : Int) (hp0 : 0 ≤ h0) (hq0 : h0 < 18446744073709551616) (lp0 : 0 ≤ l0) (lq0 : l0 < 18446744073709551616) (k0 : -9223372036854775808 ≤ k) (k1 : k ≤ 9223372036854775807) (hk0 : okV n0 h0 l0 = true) (x y c d : Int) (s : Bool) (x0 : 0 ≤ x) (y0 : 0 ≤ y) (y1 : y < 18446744073709551616) (c0 : 0 ≤ c) (c1 : c < 18446744073709551616) (d0 : 0 ≤ d) (d1 : d < 18446744073709551616) (HX : Hid (x * 18446744073709551616 + y = h0 * (k.natAbs : Int))) (HC : Hid (c * 18446744073709551616 + d = l0 * (k.natAbs : Int))) (HS : Hid ((!(n0 == decide (k < 0))) = s)) (hcar : y + c < 18446744073709551616) (HZ : Hid (y + c = 0 ∧ d = 0)) (hx0 : 0 < x) (w : World) :
    Calls Tryd.prog 48 #[.agg #[.bool n0, .int .u64 h0, .int .u64 l0], .int .i64 k] w fun e w' => e = scaleE n0 h0 l0 k ∧ Below w.heap.size w w' := by
  go_enter Tryd.func48, Tryd.ntmps48
  go_wp2_with fail
  refine (specWideOk n0 h0 l0 _).mono ?_
  rintro e w1 ⟨rfl, hB1⟩
  rw [hk0]
  have hca0 : w1.cell? ⟨w.heap.size, 0, none⟩ = some (.bool n0) := by rw [hB1.cell (by simp <;> omega)]; go_simp
  have hfa0 : w1.frozen? ⟨w.heap.size, 0, none⟩ = false := by rw [hB1.frozen (by simp <;> omega)]; go_simp
  have hca1 : w1.cell? ⟨w.heap.size, 1, none⟩ = some (.int .u64 h0) := by rw [hB1.cell (by simp <;> omega)]; go_simp
  have hfa1 : w1.frozen? ⟨w.heap.size, 1, none⟩ = false := by rw [hB1.frozen (by simp <;> omega)]; go_simp
  have hca2 : w1.cell? ⟨w.heap.size, 2, none⟩ = some (.int .u64 l0) := by rw [hB1.cell (by simp <;> omega)]; go_simp
  have hfa2 : w1.frozen? ⟨w.heap.size, 2, none⟩ = false := by rw [hB1.frozen (by simp <;> omega)]; go_simp
  have hcr0 : w1.cell? ⟨w.heap.size + 1, 0, none⟩ = some (.bool false) := by rw [hB1.cell (by simp <;> omega)]; go_simp
  have hfr0 : w1.frozen? ⟨w.heap.size + 1, 0, none⟩ = false := by rw [hB1.frozen (by simp <;> omega)]; go_simp
  have hcr1 : w1.cell? ⟨w.heap.size + 1, 1, none⟩ = some (.int .u64 0) := by rw [hB1.cell (by simp <;> omega)]; go_simp
  have hfr1 : w1.frozen? ⟨w.heap.size + 1, 1, none⟩ = false := by rw [hB1.frozen (by simp <;> omega)]; go_simp
  have hcr2 : w1.cell? ⟨w.heap.size + 1, 2, none⟩ = some (.int .u64 0) := by rw [hB1.cell (by simp <;> omega)]; go_simp
  have hfr2 : w1.frozen? ⟨w.heap.size + 1, 2, none⟩ = false := by rw [hB1.frozen (by simp <;> omega)]; go_simp
  have HB1 : Hid (Below w.heap.size w w1) := (((Below.refl _ _).alloc (Nat.le_refl _) _).alloc (by simp) _).trans (hB1.mono (by simp <;> omega))
  have hs1 : w.heap.size + 1 + 1 ≤ w1.heap.size := by have := hB1.size; simpa using this
  clear hB1
  go_wp2_with fail
  refine (specAbs k k0 k1 _).mono ?_
  rintro e w2 ⟨rfl, hB2⟩
  replace hca0 : w2.cell? ⟨w.heap.size, 0, none⟩ = some (.bool n0) := (hB2.cell (by simp <;> omega)).trans hca0
  replace hfa0 : w2.frozen? ⟨w.heap.size, 0, none⟩ = false := (hB2.frozen (by simp <;> omega)).trans hfa0
  replace hca1 : w2.cell? ⟨w.heap.size, 1, none⟩ = some (.int .u64 h0) := (hB2.cell (by simp <;> omega)).trans hca1
  replace hfa1 : w2.frozen? ⟨w.heap.size, 1, none⟩ = false := (hB2.frozen (by simp <;> omega)).trans hfa1
  replace hca2 : w2.cell? ⟨w.heap.size, 2, none⟩ = some (.int .u64 l0) := (hB2.cell (by simp <;> omega)).trans hca2
  replace hfa2 : w2.frozen? ⟨w.heap.size, 2, none⟩ = false := (hB2.frozen (by simp <;> omega)).trans hfa2
  replace hcr0 : w2.cell? ⟨w.heap.size + 1, 0, none⟩ = some (.bool false) := (hB2.cell (by simp <;> omega)).trans hcr0
  replace hfr0 : w2.frozen? ⟨w.heap.size + 1, 0, none⟩ = false := (hB2.frozen (by simp <;> omega)).trans hfr0
  replace hcr1 : w2.cell? ⟨w.heap.size + 1, 1, none⟩ = some (.int .u64 0) := (hB2.cell (by simp <;> omega)).trans hcr1
  replace hfr1 : w2.frozen? ⟨w.heap.size + 1, 1, none⟩ = false := (hB2.frozen (by simp <;> omega)).trans hfr1
  replace hcr2 : w2.cell? ⟨w.heap.size + 1, 2, none⟩ = some (.int .u64 0) := (hB2.cell (by simp <;> omega)).trans hcr2
  replace hfr2 : w2.frozen? ⟨w.heap.size + 1, 2, none⟩ = false := (hB2.frozen (by simp <;> omega)).trans hfr2
  have HB2 : Hid (Below w.heap.size w w2) := HB1.out.trans (hB2.mono (by omega))
  have hs2 := Nat.le_trans hs1 hB2.size
  clear hB2 HB1 hs1
  go_wp2_with fail
  refine (specProductAt h0 k.natAbs x y hp0 hq0 (by omega) (by omega) y0 y1 HX.out _).mono ?_
  rintro e w3 ⟨rfl, hB3⟩
  replace hca0 : w3.cell? ⟨w.heap.size, 0, none⟩ = some (.bool n0) := (hB3.cell (by simp <;> omega)).trans hca0
  replace hfa0 : w3.frozen? ⟨w.heap.size, 0, none⟩ = false := (hB3.frozen (by simp <;> omega)).trans hfa0
  replace hca1 : w3.cell? ⟨w.heap.size, 1, none⟩ = some (.int .u64 h0) := (hB3.cell (by simp <;> omega)).trans hca1
  replace hfa1 : w3.frozen? ⟨w.heap.size, 1, none⟩ = false := (hB3.frozen (by simp <;> omega)).trans hfa1
  replace hca2 : w3.cell? ⟨w.heap.size, 2, none⟩ = some (.int .u64 l0) := (hB3.cell (by simp <;> omega)).trans hca2
  replace hfa2 : w3.frozen? ⟨w.heap.size, 2, none⟩ = false := (hB3.frozen (by simp <;> omega)).trans hfa2
  replace hcr0 : w3.cell? ⟨w.heap.size + 1, 0, none⟩ = some (.bool false) := (hB3.cell (by simp <;> omega)).trans hcr0
  replace hfr0 : w3.frozen? ⟨w.heap.size + 1, 0, none⟩ = false := (hB3.frozen (by simp <;> omega)).trans hfr0
  replace hcr1 : w3.cell? ⟨w.heap.size + 1, 1, none⟩ = some (.int .u64 0) := (hB3.cell (by simp <;> omega)).trans hcr1
  replace hfr1 : w3.frozen? ⟨w.heap.size + 1, 1, none⟩ = false := (hB3.frozen (by simp <;> omega)).trans hfr1
  replace hcr2 : w3.cell? ⟨w.heap.size + 1, 2, none⟩ = some (.int .u64 0) := (hB3.cell (by simp <;> omega)).trans hcr2
  replace hfr2 : w3.frozen? ⟨w.heap.size + 1, 2, none⟩ = false := (hB3.frozen (by simp <;> omega)).trans hfr2
  have HB3 : Hid (Below w.heap.size w w3) := HB2.out.trans (hB3.mono (by omega))
  have hs3 := Nat.le_trans hs2 hB3.size
  clear hB3 HB2 hs2
  go_wp2_with fail
  refine (specProductAt l0 k.natAbs c d lp0 lq0 (by omega) (by omega) d0 d1 HC.out _).mono ?_
  rintro e w4 ⟨rfl, hB4⟩
  replace hca0 : w4.cell? ⟨w.heap.size, 0, none⟩ = some (.bool n0) := (hB4.cell (by simp <;> omega)).trans hca0
  replace hfa0 : w4.frozen? ⟨w.heap.size, 0, none⟩ = false := (hB4.frozen (by simp <;> omega)).trans hfa0
  replace hca1 : w4.cell? ⟨w.heap.size, 1, none⟩ = some (.int .u64 h0) := (hB4.cell (by simp <;> omega)).trans hca1
  replace hfa1 : w4.frozen? ⟨w.heap.size, 1, none⟩ = false := (hB4.frozen (by simp <;> omega)).trans hfa1
  replace hca2 : w4.cell? ⟨w.heap.size, 2, none⟩ = some (.int .u64 l0) := (hB4.cell (by simp <;> omega)).trans hca2
  replace hfa2 : w4.frozen? ⟨w.heap.size, 2, none⟩ = false := (hB4.frozen (by simp <;> omega)).trans hfa2
  replace hcr0 : w4.cell? ⟨w.heap.size + 1, 0, none⟩ = some (.bool false) := (hB4.cell (by simp <;> omega)).trans hcr0
  replace hfr0 : w4.frozen? ⟨w.heap.size + 1, 0, none⟩ = false := (hB4.frozen (by simp <;> omega)).trans hfr0
  replace hcr1 : w4.cell? ⟨w.heap.size + 1, 1, none⟩ = some (.int .u64 0) := (hB4.cell (by simp <;> omega)).trans hcr1
  replace hfr1 : w4.frozen? ⟨w.heap.size + 1, 1, none⟩ = false := (hB4.frozen (by simp <;> omega)).trans hfr1
  replace hcr2 : w4.cell? ⟨w.heap.size + 1, 2, none⟩ = some (.int .u64 0) := (hB4.cell (by simp <;> omega)).trans hcr2
  replace hfr2 : w4.frozen? ⟨w.heap.size + 1, 2, none⟩ = false := (hB4.frozen (by simp <;> omega)).trans hfr2
  have HB4 : Hid (Below w.heap.size w w4) := HB3.out.trans (hB4.mono (by omega))
  have hs4 := Nat.le_trans hs3 hB4.size
  clear hB4 HB3 hs3
  go_wp2_with fail
  rw [HS.out]
  (try rw [show IntKind.u64.wrap (y + c) = y + c by rw [IntKind.wrap_u64]; omega])
  have g0 : w.heap.size < w4.heap.size := by omega
  have g1 : w.heap.size + 1 < w4.heap.size := by omega
  refine (specZero s (y + c) d _).mono ?_
  rintro e w5 ⟨rfl, hB5⟩
  rw [decide_eq_true HZ.out]
  have hcr0 : w5.cell? ⟨w.heap.size + 1, 0, none⟩ = some (.bool false) := by rw [hB5.cell (by simp <;> omega)]; go_simp
  have hfr0 : w5.frozen? ⟨w.heap.size + 1, 0, none⟩ = false := by rw [hB5.frozen (by simp <;> omega)]; go_simp
  have hcr1 : w5.cell? ⟨w.heap.size + 1, 1, none⟩ = some (.int .u64 0) := by rw [hB5.cell (by simp <;> omega)]; go_simp
  have hfr1 : w5.frozen? ⟨w.heap.size + 1, 1, none⟩ = false := by rw [hB5.frozen (by simp <;> omega)]; go_simp
  have hcr2 : w5.cell? ⟨w.heap.size + 1, 2, none⟩ = some (.int .u64 0) := by rw [hB5.cell (by simp <;> omega)]; go_simp
  have hfr2 : w5.frozen? ⟨w.heap.size + 1, 2, none⟩ = false := by rw [hB5.frozen (by simp <;> omega)]; go_simp
  have hco0 : w5.cell? ⟨w4.heap.size, 0, none⟩ = some (.bool s) := by rw [hB5.cell (by simp <;> omega)]; go_simp
  have hfo0 : w5.frozen? ⟨w4.heap.size, 0, none⟩ = false := by rw [hB5.frozen (by simp <;> omega)]; go_simp
  have hco1 : w5.cell? ⟨w4.heap.size, 1, none⟩ = some (.int .u64 (y + c)) := by rw [hB5.cell (by simp <;> omega)]; go_simp
  have hfo1 : w5.frozen? ⟨w4.heap.size, 1, none⟩ = false := by rw [hB5.frozen (by simp <;> omega)]; go_simp
  have hco2 : w5.cell? ⟨w4.heap.size, 2, none⟩ = some (.int .u64 d) := by rw [hB5.cell (by simp <;> omega)]; go_simp
  have hfo2 : w5.frozen? ⟨w4.heap.size, 2, none⟩ = false := by rw [hB5.frozen (by simp <;> omega)]; go_simp
  have HB5 : Hid (Below w.heap.size w w5) := (HB4.out.alloc (by omega) _).trans (hB5.mono (by simp <;> omega))
  have hs5 : w4.heap.size + 1 ≤ w5.heap.size := by have := hB5.size; simpa using this
  have g2 : w.heap.size ≤ w5.heap.size := by omega
  have ne1 : ¬ (w.heap.size + 1 = w4.heap.size) := by omega
  have ne2 : ¬ (w4.heap.size = w.heap.size + 1) := by omega
  clear hB5
  go_wp2_with fail
  (try simp only [Exit.inBlock, Exit.then])
  refine bodyPost_ret (v := .tuple #[.agg #[.bool false, .int .u64 0, .int .u64 0], .bool false]) ?_ rfl ⟨scale_no hp0 lp0 HX.out HC.out x0 (by omega) d0 (.inl hx0) hk0, ?_⟩
  · rw [results_cell_tmp rfl]
    go_simp
  · repeat' (first | assumption | exact Below.refl _ _ | exact HB5.out | refine Below.alloc ?_ (by simp <;> omega) _ | refine Below.setCell ?_ (by simp <;> omega) _)
set_option maxRecDepth 100000 in
set_option maxHeartbeats 2000000 in
theorem specScale_nz_big (n0 : Bool) (h0 l0 k : Int) (hp0 : 0 ≤ h0) (hq0 : h0 < 18446744073709551616) (lp0 : 0 ≤ l0) (lq0 : l0 < 18446744073709551616) (k0 : -9223372036854775808 ≤ k) (k1 : k ≤ 9223372036854775807) (hk0 : okV n0 h0 l0 = true) (x y c d : Int) (s : Bool) (x0 : 0 ≤ x) (y0 : 0 ≤ y) (y1 : y < 18446744073709551616) (c0 : 0 ≤ c) (c1 : c < 18446744073709551616) (d0 : 0 ≤ d) (d1 : d < 18446744073709551616) (HX : Hid (x * 18446744073709551616 + y = h0 * (k.natAbs : Int))) (HC : Hid (c * 18446744073709551616 + d = l0 * (k.natAbs : Int))) (HS : Hid ((!(n0 == decide (k < 0))) = s)) (hcar : y + c < 18446744073709551616) (hz : ¬ (y + c = 0 ∧ d = 0)) (hx0 : 0 < x) (w : World) :
    Calls Tryd.prog 48 #[.agg #[.bool n0, .int .u64 h0, .int .u64 l0], .int .i64 k] w fun e w' => e = scaleE n0 h0 l0 k ∧ Below w.heap.size w w' := by
  go_enter Tryd.func48, Tryd.ntmps48
  go_wp2_with fail
  refine (specWideOk n0 h0 l0 _).mono ?_
  rintro e w1 ⟨rfl, hB1⟩
  rw [hk0]
  have hca0 : w1.cell? ⟨w.heap.size, 0, none⟩ = some (.bool n0) := by rw [hB1.cell (by simp <;> omega)]; go_simp
  have hfa0 : w1.frozen? ⟨w.heap.size, 0, none⟩ = false := by rw [hB1.frozen (by simp <;> omega)]; go_simp
  have hca1 : w1.cell? ⟨w.heap.size, 1, none⟩ = some (.int .u64 h0) := by rw [hB1.cell (by simp <;> omega)]; go_simp
  have hfa1 : w1.frozen? ⟨w.heap.size, 1, none⟩ = false := by rw [hB1.frozen (by simp <;> omega)]; go_simp
  have hca2 : w1.cell? ⟨w.heap.size, 2, none⟩ = some (.int .u64 l0) := by rw [hB1.cell (by simp <;> omega)]; go_simp
  have hfa2 : w1.frozen? ⟨w.heap.size, 2, none⟩ = false := by rw [hB1.frozen (by simp <;> omega)]; go_simp
  have hcr0 : w1.cell? ⟨w.heap.size + 1, 0, none⟩ = some (.bool false) := by rw [hB1.cell (by simp <;> omega)]; go_simp
  have hfr0 : w1.frozen? ⟨w.heap.size + 1, 0, none⟩ = false := by rw [hB1.frozen (by simp <;> omega)]; go_simp
  have hcr1 : w1.cell? ⟨w.heap.size + 1, 1, none⟩ = some (.int .u64 0) := by rw [hB1.cell (by simp <;> omega)]; go_simp
  have hfr1 : w1.frozen? ⟨w.heap.size + 1, 1, none⟩ = false := by rw [hB1.frozen (by simp <;> omega)]; go_simp
  have hcr2 : w1.cell? ⟨w.heap.size + 1, 2, none⟩ = some (.int .u64 0) := by rw [hB1.cell (by simp <;> omega)]; go_simp
  have hfr2 : w1.frozen? ⟨w.heap.size + 1, 2, none⟩ = false := by rw [hB1.frozen (by simp <;> omega)]; go_simp
  have HB1 : Hid (Below w.heap.size w w1) := (((Below.refl _ _).alloc (Nat.le_refl _) _).alloc (by simp) _).trans (hB1.mono (by simp <;> omega))
  have hs1 : w.heap.size + 1 + 1 ≤ w1.heap.size := by have := hB1.size; simpa using this
  clear hB1
  go_wp2_with fail
  refine (specAbs k k0 k1 _).mono ?_
  rintro e w2 ⟨rfl, hB2⟩
  replace hca0 : w2.cell? ⟨w.heap.size, 0, none⟩ = some (.bool n0) := (hB2.cell (by simp <;> omega)).trans hca0
  replace hfa0 : w2.frozen? ⟨w.heap.size, 0, none⟩ = false := (hB2.frozen (by simp <;> omega)).trans hfa0
  replace hca1 : w2.cell? ⟨w.heap.size, 1, none⟩ = some (.int .u64 h0) := (hB2.cell (by simp <;> omega)).trans hca1
  replace hfa1 : w2.frozen? ⟨w.heap.size, 1, none⟩ = false := (hB2.frozen (by simp <;> omega)).trans hfa1
  replace hca2 : w2.cell? ⟨w.heap.size, 2, none⟩ = some (.int .u64 l0) := (hB2.cell (by simp <;> omega)).trans hca2
  replace hfa2 : w2.frozen? ⟨w.heap.size, 2, none⟩ = false := (hB2.frozen (by simp <;> omega)).trans hfa2
  replace hcr0 : w2.cell? ⟨w.heap.size + 1, 0, none⟩ = some (.bool false) := (hB2.cell (by simp <;> omega)).trans hcr0
  replace hfr0 : w2.frozen? ⟨w.heap.size + 1, 0, none⟩ = false := (hB2.frozen (by simp <;> omega)).trans hfr0
  replace hcr1 : w2.cell? ⟨w.heap.size + 1, 1, none⟩ = some (.int .u64 0) := (hB2.cell (by simp <;> omega)).trans hcr1
  replace hfr1 : w2.frozen? ⟨w.heap.size + 1, 1, none⟩ = false := (hB2.frozen (by simp <;> omega)).trans hfr1
  replace hcr2 : w2.cell? ⟨w.heap.size + 1, 2, none⟩ = some (.int .u64 0) := (hB2.cell (by simp <;> omega)).trans hcr2
  replace hfr2 : w2.frozen? ⟨w.heap.size + 1, 2, none⟩ = false := (hB2.frozen (by simp <;> omega)).trans hfr2
  have HB2 : Hid (Below w.heap.size w w2) := HB1.out.trans (hB2.mono (by omega))
  have hs2 := Nat.le_trans hs1 hB2.size
  clear hB2 HB1 hs1
  go_wp2_with fail
  refine (specProductAt h0 k.natAbs x y hp0 hq0 (by omega) (by omega) y0 y1 HX.out _).mono ?_
  rintro e w3 ⟨rfl, hB3⟩
  replace hca0 : w3.cell? ⟨w.heap.size, 0, none⟩ = some (.bool n0) := (hB3.cell (by simp <;> omega)).trans hca0
  replace hfa0 : w3.frozen? ⟨w.heap.size, 0, none⟩ = false := (hB3.frozen (by simp <;> omega)).trans hfa0
  replace hca1 : w3.cell? ⟨w.heap.size, 1, none⟩ = some (.int .u64 h0) := (hB3.cell (by simp <;> omega)).trans hca1
  replace hfa1 : w3.frozen? ⟨w.heap.size, 1, none⟩ = false := (hB3.frozen (by simp <;> omega)).trans hfa1
  replace hca2 : w3.cell? ⟨w.heap.size, 2, none⟩ = some (.int .u64 l0) := (hB3.cell (by simp <;> omega)).trans hca2
  replace hfa2 : w3.frozen? ⟨w.heap.size, 2, none⟩ = false := (hB3.frozen (by simp <;> omega)).trans hfa2
  replace hcr0 : w3.cell? ⟨w.heap.size + 1, 0, none⟩ = some (.bool false) := (hB3.cell (by simp <;> omega)).trans hcr0
  replace hfr0 : w3.frozen? ⟨w.heap.size + 1, 0, none⟩ = false := (hB3.frozen (by simp <;> omega)).trans hfr0
  replace hcr1 : w3.cell? ⟨w.heap.size + 1, 1, none⟩ = some (.int .u64 0) := (hB3.cell (by simp <;> omega)).trans hcr1
  replace hfr1 : w3.frozen? ⟨w.heap.size + 1, 1, none⟩ = false := (hB3.frozen (by simp <;> omega)).trans hfr1
  replace hcr2 : w3.cell? ⟨w.heap.size + 1, 2, none⟩ = some (.int .u64 0) := (hB3.cell (by simp <;> omega)).trans hcr2
  replace hfr2 : w3.frozen? ⟨w.heap.size + 1, 2, none⟩ = false := (hB3.frozen (by simp <;> omega)).trans hfr2
  have HB3 : Hid (Below w.heap.size w w3) := HB2.out.trans (hB3.mono (by omega))
  have hs3 := Nat.le_trans hs2 hB3.size
  clear hB3 HB2 hs2
  go_wp2_with fail
  refine (specProductAt l0 k.natAbs c d lp0 lq0 (by omega) (by omega) d0 d1 HC.out _).mono ?_
  rintro e w4 ⟨rfl, hB4⟩
  replace hca0 : w4.cell? ⟨w.heap.size, 0, none⟩ = some (.bool n0) := (hB4.cell (by simp <;> omega)).trans hca0
  replace hfa0 : w4.frozen? ⟨w.heap.size, 0, none⟩ = false := (hB4.frozen (by simp <;> omega)).trans hfa0
  replace hca1 : w4.cell? ⟨w.heap.size, 1, none⟩ = some (.int .u64 h0) := (hB4.cell (by simp <;> omega)).trans hca1
  replace hfa1 : w4.frozen? ⟨w.heap.size, 1, none⟩ = false := (hB4.frozen (by simp <;> omega)).trans hfa1
  replace hca2 : w4.cell? ⟨w.heap.size, 2, none⟩ = some (.int .u64 l0) := (hB4.cell (by simp <;> omega)).trans hca2
  replace hfa2 : w4.frozen? ⟨w.heap.size, 2, none⟩ = false := (hB4.frozen (by simp <;> omega)).trans hfa2
  replace hcr0 : w4.cell? ⟨w.heap.size + 1, 0, none⟩ = some (.bool false) := (hB4.cell (by simp <;> omega)).trans hcr0
  replace hfr0 : w4.frozen? ⟨w.heap.size + 1, 0, none⟩ = false := (hB4.frozen (by simp <;> omega)).trans hfr0
  replace hcr1 : w4.cell? ⟨w.heap.size + 1, 1, none⟩ = some (.int .u64 0) := (hB4.cell (by simp <;> omega)).trans hcr1
  replace hfr1 : w4.frozen? ⟨w.heap.size + 1, 1, none⟩ = false := (hB4.frozen (by simp <;> omega)).trans hfr1
  replace hcr2 : w4.cell? ⟨w.heap.size + 1, 2, none⟩ = some (.int .u64 0) := (hB4.cell (by simp <;> omega)).trans hcr2
  replace hfr2 : w4.frozen? ⟨w.heap.size + 1, 2, none⟩ = false := (hB4.frozen (by simp <;> omega)).trans hfr2
  have HB4 : Hid (Below w.heap.size w w4) := HB3.out.trans (hB4.mono (by omega))
  have hs4 := Nat.le_trans hs3 hB4.size
  clear hB4 HB3 hs3
  go_wp2_with fail
  rw [HS.out]
  (try rw [show IntKind.u64.wrap (y + c) = y + c by rw [IntKind.wrap_u64]; omega])
  have g0 : w.heap.size < w4.heap.size := by omega
  have g1 : w.heap.size + 1 < w4.heap.size := by omega
  refine (specZero s (y + c) d _).mono ?_
  rintro e w5 ⟨rfl, hB5⟩
  rw [decide_eq_false hz]
  have hcr0 : w5.cell? ⟨w.heap.size + 1, 0, none⟩ = some (.bool false) := by rw [hB5.cell (by simp <;> omega)]; go_simp
  have hfr0 : w5.frozen? ⟨w.heap.size + 1, 0, none⟩ = false := by rw [hB5.frozen (by simp <;> omega)]; go_simp
  have hcr1 : w5.cell? ⟨w.heap.size + 1, 1, none⟩ = some (.int .u64 0) := by rw [hB5.cell (by simp <;> omega)]; go_simp
  have hfr1 : w5.frozen? ⟨w.heap.size + 1, 1, none⟩ = false := by rw [hB5.frozen (by simp <;> omega)]; go_simp
  have hcr2 : w5.cell? ⟨w.heap.size + 1, 2, none⟩ = some (.int .u64 0) := by rw [hB5.cell (by simp <;> omega)]; go_simp
  have hfr2 : w5.frozen? ⟨w.heap.size + 1, 2, none⟩ = false := by rw [hB5.frozen (by simp <;> omega)]; go_simp
  have hco0 : w5.cell? ⟨w4.heap.size, 0, none⟩ = some (.bool s) := by rw [hB5.cell (by simp <;> omega)]; go_simp
  have hfo0 : w5.frozen? ⟨w4.heap.size, 0, none⟩ = false := by rw [hB5.frozen (by simp <;> omega)]; go_simp
  have hco1 : w5.cell? ⟨w4.heap.size, 1, none⟩ = some (.int .u64 (y + c)) := by rw [hB5.cell (by simp <;> omega)]; go_simp
  have hfo1 : w5.frozen? ⟨w4.heap.size, 1, none⟩ = false := by rw [hB5.frozen (by simp <;> omega)]; go_simp
  have hco2 : w5.cell? ⟨w4.heap.size, 2, none⟩ = some (.int .u64 d) := by rw [hB5.cell (by simp <;> omega)]; go_simp
  have hfo2 : w5.frozen? ⟨w4.heap.size, 2, none⟩ = false := by rw [hB5.frozen (by simp <;> omega)]; go_simp
  have HB5 : Hid (Below w.heap.size w w5) := (HB4.out.alloc (by omega) _).trans (hB5.mono (by simp <;> omega))
  have hs5 : w4.heap.size + 1 ≤ w5.heap.size := by have := hB5.size; simpa using this
  have g2 : w.heap.size ≤ w5.heap.size := by omega
  have ne1 : ¬ (w.heap.size + 1 = w4.heap.size) := by omega
  have ne2 : ¬ (w4.heap.size = w.heap.size + 1) := by omega
  clear hB5
  go_wp2_with fail
  (try simp only [Exit.inBlock, Exit.then])
  refine bodyPost_ret (v := .tuple #[.agg #[.bool false, .int .u64 0, .int .u64 0], .bool false]) ?_ rfl ⟨scale_no hp0 lp0 HX.out HC.out x0 (by omega) d0 (.inl hx0) hk0, ?_⟩
  · rw [results_cell_tmp rfl]
    go_simp
  · repeat' (first | assumption | exact Below.refl _ _ | exact HB5.out | refine Below.alloc ?_ (by simp <;> omega) _ | refine Below.setCell ?_ (by simp <;> omega) _)
set_option maxRecDepth 100000 in
set_option maxHeartbeats 2000000 in
theorem specScale_z_ok (n0 : Bool) (h0 l0 k : Int) (hp0 : 0 ≤ h0) (hq0 : h0 < 18446744073709551616) (lp0 : 0 ≤ l0) (lq0 : l0 < 18446744073709551616) (k0 : -9223372036854775808 ≤ k) (k1 : k ≤ 9223372036854775807) (hk0 : okV n0 h0 l0 = true) (x y c d : Int) (s : Bool) (x0 : 0 ≤ x) (y0 : 0 ≤ y) (y1 : y < 18446744073709551616) (c0 : 0 ≤ c) (c1 : c < 18446744073709551616) (d0 : 0 ≤ d) (d1 : d < 18446744073709551616) (HX : Hid (x * 18446744073709551616 + y = h0 * (k.natAbs : Int))) (HC : Hid (c * 18446744073709551616 + d = l0 * (k.natAbs : Int))) (HS : Hid ((!(n0 == decide (k < 0))) = s)) (hcar : y + c < 18446744073709551616) (HZ : Hid (y + c = 0 ∧ d = 0)) (hx0 : ¬ 0 < x) (hk2 : okV false (y + c) d = true) (w : World) :
    Calls Tryd.prog 48 #[.agg #[.bool n0, .int .u64 h0, .int .u64 l0], .int .i64 k] w fun e w' => e = scaleE n0 h0 l0 k ∧ Below w.heap.size w w' := by
  go_enter Tryd.func48, Tryd.ntmps48
  go_wp2_with fail
  refine (specWideOk n0 h0 l0 _).mono ?_
  rintro e w1 ⟨rfl, hB1⟩
  rw [hk0]
  have hca0 : w1.cell? ⟨w.heap.size, 0, none⟩ = some (.bool n0) := by rw [hB1.cell (by simp <;> omega)]; go_simp
  have hfa0 : w1.frozen? ⟨w.heap.size, 0, none⟩ = false := by rw [hB1.frozen (by simp <;> omega)]; go_simp
  have hca1 : w1.cell? ⟨w.heap.size, 1, none⟩ = some (.int .u64 h0) := by rw [hB1.cell (by simp <;> omega)]; go_simp
  have hfa1 : w1.frozen? ⟨w.heap.size, 1, none⟩ = false := by rw [hB1.frozen (by simp <;> omega)]; go_simp
  have hca2 : w1.cell? ⟨w.heap.size, 2, none⟩ = some (.int .u64 l0) := by rw [hB1.cell (by simp <;> omega)]; go_simp
  have hfa2 : w1.frozen? ⟨w.heap.size, 2, none⟩ = false := by rw [hB1.frozen (by simp <;> omega)]; go_simp
  have hcr0 : w1.cell? ⟨w.heap.size + 1, 0, none⟩ = some (.bool false) := by rw [hB1.cell (by simp <;> omega)]; go_simp
  have hfr0 : w1.frozen? ⟨w.heap.size + 1, 0, none⟩ = false := by rw [hB1.frozen (by simp <;> omega)]; go_simp
  have hcr1 : w1.cell? ⟨w.heap.size + 1, 1, none⟩ = some (.int .u64 0) := by rw [hB1.cell (by simp <;> omega)]; go_simp
  have hfr1 : w1.frozen? ⟨w.heap.size + 1, 1, none⟩ = false := by rw [hB1.frozen (by simp <;> omega)]; go_simp
  have hcr2 : w1.cell? ⟨w.heap.size + 1, 2, none⟩ = some (.int .u64 0) := by rw [hB1.cell (by simp <;> omega)]; go_simp
  have hfr2 : w1.frozen? ⟨w.heap.size + 1, 2, none⟩ = false := by rw [hB1.frozen (by simp <;> omega)]; go_simp
  have HB1 : Hid (Below w.heap.size w w1) := (((Below.refl _ _).alloc (Nat.le_refl _) _).alloc (by simp) _).trans (hB1.mono (by simp <;> omega))
  have hs1 : w.heap.size + 1 + 1 ≤ w1.heap.size := by have := hB1.size; simpa using this
  clear hB1
  go_wp2_with fail
  refine (specAbs k k0 k1 _).mono ?_
  rintro e w2 ⟨rfl, hB2⟩
  replace hca0 : w2.cell? ⟨w.heap.size, 0, none⟩ = some (.bool n0) := (hB2.cell (by simp <;> omega)).trans hca0
  replace hfa0 : w2.frozen? ⟨w.heap.size, 0, none⟩ = false := (hB2.frozen (by simp <;> omega)).trans hfa0
  replace hca1 : w2.cell? ⟨w.heap.size, 1, none⟩ = some (.int .u64 h0) := (hB2.cell (by simp <;> omega)).trans hca1
  replace hfa1 : w2.frozen? ⟨w.heap.size, 1, none⟩ = false := (hB2.frozen (by simp <;> omega)).trans hfa1
  replace hca2 : w2.cell? ⟨w.heap.size, 2, none⟩ = some (.int .u64 l0) := (hB2.cell (by simp <;> omega)).trans hca2
  replace hfa2 : w2.frozen? ⟨w.heap.size, 2, none⟩ = false := (hB2.frozen (by simp <;> omega)).trans hfa2
  replace hcr0 : w2.cell? ⟨w.heap.size + 1, 0, none⟩ = some (.bool false) := (hB2.cell (by simp <;> omega)).trans hcr0
  replace hfr0 : w2.frozen? ⟨w.heap.size + 1, 0, none⟩ = false := (hB2.frozen (by simp <;> omega)).trans hfr0
  replace hcr1 : w2.cell? ⟨w.heap.size + 1, 1, none⟩ = some (.int .u64 0) := (hB2.cell (by simp <;> omega)).trans hcr1
  replace hfr1 : w2.frozen? ⟨w.heap.size + 1, 1, none⟩ = false := (hB2.frozen (by simp <;> omega)).trans hfr1
  replace hcr2 : w2.cell? ⟨w.heap.size + 1, 2, none⟩ = some (.int .u64 0) := (hB2.cell (by simp <;> omega)).trans hcr2
  replace hfr2 : w2.frozen? ⟨w.heap.size + 1, 2, none⟩ = false := (hB2.frozen (by simp <;> omega)).trans hfr2
  have HB2 : Hid (Below w.heap.size w w2) := HB1.out.trans (hB2.mono (by omega))
  have hs2 := Nat.le_trans hs1 hB2.size
  clear hB2 HB1 hs1
  go_wp2_with fail
  refine (specProductAt h0 k.natAbs x y hp0 hq0 (by omega) (by omega) y0 y1 HX.out _).mono ?_
  rintro e w3 ⟨rfl, hB3⟩
  replace hca0 : w3.cell? ⟨w.heap.size, 0, none⟩ = some (.bool n0) := (hB3.cell (by simp <;> omega)).trans hca0
  replace hfa0 : w3.frozen? ⟨w.heap.size, 0, none⟩ = false := (hB3.frozen (by simp <;> omega)).trans hfa0
  replace hca1 : w3.cell? ⟨w.heap.size, 1, none⟩ = some (.int .u64 h0) := (hB3.cell (by simp <;> omega)).trans hca1
  replace hfa1 : w3.frozen? ⟨w.heap.size, 1, none⟩ = false := (hB3.frozen (by simp <;> omega)).trans hfa1
  replace hca2 : w3.cell? ⟨w.heap.size, 2, none⟩ = some (.int .u64 l0) := (hB3.cell (by simp <;> omega)).trans hca2
  replace hfa2 : w3.frozen? ⟨w.heap.size, 2, none⟩ = false := (hB3.frozen (by simp <;> omega)).trans hfa2
  replace hcr0 : w3.cell? ⟨w.heap.size + 1, 0, none⟩ = some (.bool false) := (hB3.cell (by simp <;> omega)).trans hcr0
  replace hfr0 : w3.frozen? ⟨w.heap.size + 1, 0, none⟩ = false := (hB3.frozen (by simp <;> omega)).trans hfr0
  replace hcr1 : w3.cell? ⟨w.heap.size + 1, 1, none⟩ = some (.int .u64 0) := (hB3.cell (by simp <;> omega)).trans hcr1
  replace hfr1 : w3.frozen? ⟨w.heap.size + 1, 1, none⟩ = false := (hB3.frozen (by simp <;> omega)).trans hfr1
  replace hcr2 : w3.cell? ⟨w.heap.size + 1, 2, none⟩ = some (.int .u64 0) := (hB3.cell (by simp <;> omega)).trans hcr2
  replace hfr2 : w3.frozen? ⟨w.heap.size + 1, 2, none⟩ = false := (hB3.frozen (by simp <;> omega)).trans hfr2
  have HB3 : Hid (Below w.heap.size w w3) := HB2.out.trans (hB3.mono (by omega))
  have hs3 := Nat.le_trans hs2 hB3.size
  clear hB3 HB2 hs2
  go_wp2_with fail
  refine (specProductAt l0 k.natAbs c d lp0 lq0 (by omega) (by omega) d0 d1 HC.out _).mono ?_
  rintro e w4 ⟨rfl, hB4⟩
  replace hca0 : w4.cell? ⟨w.heap.size, 0, none⟩ = some (.bool n0) := (hB4.cell (by simp <;> omega)).trans hca0
  replace hfa0 : w4.frozen? ⟨w.heap.size, 0, none⟩ = false := (hB4.frozen (by simp <;> omega)).trans hfa0
  replace hca1 : w4.cell? ⟨w.heap.size, 1, none⟩ = some (.int .u64 h0) := (hB4.cell (by simp <;> omega)).trans hca1
  replace hfa1 : w4.frozen? ⟨w.heap.size, 1, none⟩ = false := (hB4.frozen (by simp <;> omega)).trans hfa1
  replace hca2 : w4.cell? ⟨w.heap.size, 2, none⟩ = some (.int .u64 l0) := (hB4.cell (by simp <;> omega)).trans hca2
  replace hfa2 : w4.frozen? ⟨w.heap.size, 2, none⟩ = false := (hB4.frozen (by simp <;> omega)).trans hfa2
  replace hcr0 : w4.cell? ⟨w.heap.size + 1, 0, none⟩ = some (.bool false) := (hB4.cell (by simp <;> omega)).trans hcr0
  replace hfr0 : w4.frozen? ⟨w.heap.size + 1, 0, none⟩ = false := (hB4.frozen (by simp <;> omega)).trans hfr0
  replace hcr1 : w4.cell? ⟨w.heap.size + 1, 1, none⟩ = some (.int .u64 0) := (hB4.cell (by simp <;> omega)).trans hcr1
  replace hfr1 : w4.frozen? ⟨w.heap.size + 1, 1, none⟩ = false := (hB4.frozen (by simp <;> omega)).trans hfr1
  replace hcr2 : w4.cell? ⟨w.heap.size + 1, 2, none⟩ = some (.int .u64 0) := (hB4.cell (by simp <;> omega)).trans hcr2
  replace hfr2 : w4.frozen? ⟨w.heap.size + 1, 2, none⟩ = false := (hB4.frozen (by simp <;> omega)).trans hfr2
  have HB4 : Hid (Below w.heap.size w w4) := HB3.out.trans (hB4.mono (by omega))
  have hs4 := Nat.le_trans hs3 hB4.size
  clear hB4 HB3 hs3
  go_wp2_with fail
  rw [HS.out]
  (try rw [show IntKind.u64.wrap (y + c) = y + c by rw [IntKind.wrap_u64]; omega])
  have g0 : w.heap.size < w4.heap.size := by omega
  have g1 : w.heap.size + 1 < w4.heap.size := by omega
  refine (specZero s (y + c) d _).mono ?_
  rintro e w5 ⟨rfl, hB5⟩
  rw [decide_eq_true HZ.out]
  have hcr0 : w5.cell? ⟨w.heap.size + 1, 0, none⟩ = some (.bool false) := by rw [hB5.cell (by simp <;> omega)]; go_simp
  have hfr0 : w5.frozen? ⟨w.heap.size + 1, 0, none⟩ = false := by rw [hB5.frozen (by simp <;> omega)]; go_simp
  have hcr1 : w5.cell? ⟨w.heap.size + 1, 1, none⟩ = some (.int .u64 0) := by rw [hB5.cell (by simp <;> omega)]; go_simp
  have hfr1 : w5.frozen? ⟨w.heap.size + 1, 1, none⟩ = false := by rw [hB5.frozen (by simp <;> omega)]; go_simp
  have hcr2 : w5.cell? ⟨w.heap.size + 1, 2, none⟩ = some (.int .u64 0) := by rw [hB5.cell (by simp <;> omega)]; go_simp
  have hfr2 : w5.frozen? ⟨w.heap.size + 1, 2, none⟩ = false := by rw [hB5.frozen (by simp <;> omega)]; go_simp
  have hco0 : w5.cell? ⟨w4.heap.size, 0, none⟩ = some (.bool s) := by rw [hB5.cell (by simp <;> omega)]; go_simp
  have hfo0 : w5.frozen? ⟨w4.heap.size, 0, none⟩ = false := by rw [hB5.frozen (by simp <;> omega)]; go_simp
  have hco1 : w5.cell? ⟨w4.heap.size, 1, none⟩ = some (.int .u64 (y + c)) := by rw [hB5.cell (by simp <;> omega)]; go_simp
  have hfo1 : w5.frozen? ⟨w4.heap.size, 1, none⟩ = false := by rw [hB5.frozen (by simp <;> omega)]; go_simp
  have hco2 : w5.cell? ⟨w4.heap.size, 2, none⟩ = some (.int .u64 d) := by rw [hB5.cell (by simp <;> omega)]; go_simp
  have hfo2 : w5.frozen? ⟨w4.heap.size, 2, none⟩ = false := by rw [hB5.frozen (by simp <;> omega)]; go_simp
  have HB5 : Hid (Below w.heap.size w w5) := (HB4.out.alloc (by omega) _).trans (hB5.mono (by simp <;> omega))
  have hs5 : w4.heap.size + 1 ≤ w5.heap.size := by have := hB5.size; simpa using this
  have g2 : w.heap.size ≤ w5.heap.size := by omega
  have ne1 : ¬ (w.heap.size + 1 = w4.heap.size) := by omega
  have ne2 : ¬ (w4.heap.size = w.heap.size + 1) := by omega
  clear hB5
  go_wp2_with fail
  refine (specWideOk false (y + c) d _).mono ?_
  rintro e w6 ⟨rfl, hB6⟩
  rw [hk2]
  have hcr0 : w6.cell? ⟨w.heap.size + 1, 0, none⟩ = some (.bool false) := by rw [hB6.cell (by simp <;> omega)]; go_simp
  have hfr0 : w6.frozen? ⟨w.heap.size + 1, 0, none⟩ = false := by rw [hB6.frozen (by simp <;> omega)]; go_simp
  have hcr1 : w6.cell? ⟨w.heap.size + 1, 1, none⟩ = some (.int .u64 0) := by rw [hB6.cell (by simp <;> omega)]; go_simp
  have hfr1 : w6.frozen? ⟨w.heap.size + 1, 1, none⟩ = false := by rw [hB6.frozen (by simp <;> omega)]; go_simp
  have hcr2 : w6.cell? ⟨w.heap.size + 1, 2, none⟩ = some (.int .u64 0) := by rw [hB6.cell (by simp <;> omega)]; go_simp
  have hfr2 : w6.frozen? ⟨w.heap.size + 1, 2, none⟩ = false := by rw [hB6.frozen (by simp <;> omega)]; go_simp
  have hco0 : w6.cell? ⟨w4.heap.size, 0, none⟩ = some (.bool false) := by rw [hB6.cell (by simp <;> omega)]; go_simp
  have hfo0 : w6.frozen? ⟨w4.heap.size, 0, none⟩ = false := by rw [hB6.frozen (by simp <;> omega)]; go_simp
  have hco1 : w6.cell? ⟨w4.heap.size, 1, none⟩ = some (.int .u64 (y + c)) := by rw [hB6.cell (by simp <;> omega)]; go_simp
  have hfo1 : w6.frozen? ⟨w4.heap.size, 1, none⟩ = false := by rw [hB6.frozen (by simp <;> omega)]; go_simp
  have hco2 : w6.cell? ⟨w4.heap.size, 2, none⟩ = some (.int .u64 d) := by rw [hB6.cell (by simp <;> omega)]; go_simp
  have hfo2 : w6.frozen? ⟨w4.heap.size, 2, none⟩ = false := by rw [hB6.frozen (by simp <;> omega)]; go_simp
  have HB6 : Hid (Below w.heap.size w w6) := (HB5.out.setCell (by simp <;> omega) _).trans (hB6.mono (by first | omega | (simp <;> omega)))
  clear hB6
  go_wp2_with fail
  (try simp only [Exit.inBlock, Exit.then])
  refine bodyPost_ret (v := .tuple #[.agg #[.bool false, .int .u64 (y + c), .int .u64 d], .bool true]) ?_ rfl ⟨scale_zero hp0 lp0 HX.out HC.out (by omega) HZ.out hk0, ?_⟩
  · rw [results_cell_tmp rfl]
    go_simp
  · repeat' (first | assumption | exact Below.refl _ _ | exact HB6.out | refine Below.alloc ?_ (by simp <;> omega) _ | refine Below.setCell ?_ (by simp <;> omega) _)
set_option maxRecDepth 100000 in
set_option maxHeartbeats 2000000 in
theorem specScale_nz_ok (n0 : Bool) (h0 l0 k : Int) (hp0 : 0 ≤ h0) (hq0 : h0 < 18446744073709551616) (lp0 : 0 ≤ l0) (lq0 : l0 < 18446744073709551616) (k0 : -9223372036854775808 ≤ k) (k1 : k ≤ 9223372036854775807) (hk0 : okV n0 h0 l0 = true) (x y c d : Int) (s : Bool) (x0 : 0 ≤ x) (y0 : 0 ≤ y) (y1 : y < 18446744073709551616) (c0 : 0 ≤ c) (c1 : c < 18446744073709551616) (d0 : 0 ≤ d) (d1 : d < 18446744073709551616) (HX : Hid (x * 18446744073709551616 + y = h0 * (k.natAbs : Int))) (HC : Hid (c * 18446744073709551616 + d = l0 * (k.natAbs : Int))) (HS : Hid ((!(n0 == decide (k < 0))) = s)) (hz : ¬ (y + c = 0 ∧ d = 0)) (hx0 : ¬ 0 < x) (hyc : y + c < 9223372036854775808) (hk2 : okV s (y + c) d = true) (w : World) :
    Calls Tryd.prog 48 #[.agg #[.bool n0, .int .u64 h0, .int .u64 l0], .int .i64 k] w fun e w' => e = scaleE n0 h0 l0 k ∧ Below w.heap.size w w' := by
  go_enter Tryd.func48, Tryd.ntmps48
  go_wp2_with fail
  refine (specWideOk n0 h0 l0 _).mono ?_
  rintro e w1 ⟨rfl, hB1⟩
  rw [hk0]
  have hca0 : w1.cell? ⟨w.heap.size, 0, none⟩ = some (.bool n0) := by rw [hB1.cell (by simp <;> omega)]; go_simp
  have hfa0 : w1.frozen? ⟨w.heap.size, 0, none⟩ = false := by rw [hB1.frozen (by simp <;> omega)]; go_simp
  have hca1 : w1.cell? ⟨w.heap.size, 1, none⟩ = some (.int .u64 h0) := by rw [hB1.cell (by simp <;> omega)]; go_simp
  have hfa1 : w1.frozen? ⟨w.heap.size, 1, none⟩ = false := by rw [hB1.frozen (by simp <;> omega)]; go_simp
  have hca2 : w1.cell? ⟨w.heap.size, 2, none⟩ = some (.int .u64 l0) := by rw [hB1.cell (by simp <;> omega)]; go_simp
  have hfa2 : w1.frozen? ⟨w.heap.size, 2, none⟩ = false := by rw [hB1.frozen (by simp <;> omega)]; go_simp
  have hcr0 : w1.cell? ⟨w.heap.size + 1, 0, none⟩ = some (.bool false) := by rw [hB1.cell (by simp <;> omega)]; go_simp
  have hfr0 : w1.frozen? ⟨w.heap.size + 1, 0, none⟩ = false := by rw [hB1.frozen (by simp <;> omega)]; go_simp
  have hcr1 : w1.cell? ⟨w.heap.size + 1, 1, none⟩ = some (.int .u64 0) := by rw [hB1.cell (by simp <;> omega)]; go_simp
  have hfr1 : w1.frozen? ⟨w.heap.size + 1, 1, none⟩ = false := by rw [hB1.frozen (by simp <;> omega)]; go_simp
  have hcr2 : w1.cell? ⟨w.heap.size + 1, 2, none⟩ = some (.int .u64 0) := by rw [hB1.cell (by simp <;> omega)]; go_simp
  have hfr2 : w1.frozen? ⟨w.heap.size + 1, 2, none⟩ = false := by rw [hB1.frozen (by simp <;> omega)]; go_simp
  have HB1 : Hid (Below w.heap.size w w1) := (((Below.refl _ _).alloc (Nat.le_refl _) _).alloc (by simp) _).trans (hB1.mono (by simp <;> omega))
  have hs1 : w.heap.size + 1 + 1 ≤ w1.heap.size := by have := hB1.size; simpa using this
  clear hB1
  go_wp2_with fail
  refine (specAbs k k0 k1 _).mono ?_
  rintro e w2 ⟨rfl, hB2⟩
  replace hca0 : w2.cell? ⟨w.heap.size, 0, none⟩ = some (.bool n0) := (hB2.cell (by simp <;> omega)).trans hca0
  replace hfa0 : w2.frozen? ⟨w.heap.size, 0, none⟩ = false := (hB2.frozen (by simp <;> omega)).trans hfa0
  replace hca1 : w2.cell? ⟨w.heap.size, 1, none⟩ = some (.int .u64 h0) := (hB2.cell (by simp <;> omega)).trans hca1
  replace hfa1 : w2.frozen? ⟨w.heap.size, 1, none⟩ = false := (hB2.frozen (by simp <;> omega)).trans hfa1
  replace hca2 : w2.cell? ⟨w.heap.size, 2, none⟩ = some (.int .u64 l0) := (hB2.cell (by simp <;> omega)).trans hca2
  replace hfa2 : w2.frozen? ⟨w.heap.size, 2, none⟩ = false := (hB2.frozen (by simp <;> omega)).trans hfa2
  replace hcr0 : w2.cell? ⟨w.heap.size + 1, 0, none⟩ = some (.bool false) := (hB2.cell (by simp <;> omega)).trans hcr0
  replace hfr0 : w2.frozen? ⟨w.heap.size + 1, 0, none⟩ = false := (hB2.frozen (by simp <;> omega)).trans hfr0
  replace hcr1 : w2.cell? ⟨w.heap.size + 1, 1, none⟩ = some (.int .u64 0) := (hB2.cell (by simp <;> omega)).trans hcr1
  replace hfr1 : w2.frozen? ⟨w.heap.size + 1, 1, none⟩ = false := (hB2.frozen (by simp <;> omega)).trans hfr1
  replace hcr2 : w2.cell? ⟨w.heap.size + 1, 2, none⟩ = some (.int .u64 0) := (hB2.cell (by simp <;> omega)).trans hcr2
  replace hfr2 : w2.frozen? ⟨w.heap.size + 1, 2, none⟩ = false := (hB2.frozen (by simp <;> omega)).trans hfr2
  have HB2 : Hid (Below w.heap.size w w2) := HB1.out.trans (hB2.mono (by omega))
  have hs2 := Nat.le_trans hs1 hB2.size
  clear hB2 HB1 hs1
  go_wp2_with fail
  refine (specProductAt h0 k.natAbs x y hp0 hq0 (by omega) (by omega) y0 y1 HX.out _).mono ?_
  rintro e w3 ⟨rfl, hB3⟩
  replace hca0 : w3.cell? ⟨w.heap.size, 0, none⟩ = some (.bool n0) := (hB3.cell (by simp <;> omega)).trans hca0
  replace hfa0 : w3.frozen? ⟨w.heap.size, 0, none⟩ = false := (hB3.frozen (by simp <;> omega)).trans hfa0
  replace hca1 : w3.cell? ⟨w.heap.size, 1, none⟩ = some (.int .u64 h0) := (hB3.cell (by simp <;> omega)).trans hca1
  replace hfa1 : w3.frozen? ⟨w.heap.size, 1, none⟩ = false := (hB3.frozen (by simp <;> omega)).trans hfa1
  replace hca2 : w3.cell? ⟨w.heap.size, 2, none⟩ = some (.int .u64 l0) := (hB3.cell (by simp <;> omega)).trans hca2
  replace hfa2 : w3.frozen? ⟨w.heap.size, 2, none⟩ = false := (hB3.frozen (by simp <;> omega)).trans hfa2
  replace hcr0 : w3.cell? ⟨w.heap.size + 1, 0, none⟩ = some (.bool false) := (hB3.cell (by simp <;> omega)).trans hcr0
  replace hfr0 : w3.frozen? ⟨w.heap.size + 1, 0, none⟩ = false := (hB3.frozen (by simp <;> omega)).trans hfr0
  replace hcr1 : w3.cell? ⟨w.heap.size + 1, 1, none⟩ = some (.int .u64 0) := (hB3.cell (by simp <;> omega)).trans hcr1
  replace hfr1 : w3.frozen? ⟨w.heap.size + 1, 1, none⟩ = false := (hB3.frozen (by simp <;> omega)).trans hfr1
  replace hcr2 : w3.cell? ⟨w.heap.size + 1, 2, none⟩ = some (.int .u64 0) := (hB3.cell (by simp <;> omega)).trans hcr2
  replace hfr2 : w3.frozen? ⟨w.heap.size + 1, 2, none⟩ = false := (hB3.frozen (by simp <;> omega)).trans hfr2
  have HB3 : Hid (Below w.heap.size w w3) := HB2.out.trans (hB3.mono (by omega))
  have hs3 := Nat.le_trans hs2 hB3.size
  clear hB3 HB2 hs2
  go_wp2_with fail
  refine (specProductAt l0 k.natAbs c d lp0 lq0 (by omega) (by omega) d0 d1 HC.out _).mono ?_
  rintro e w4 ⟨rfl, hB4⟩
  replace hca0 : w4.cell? ⟨w.heap.size, 0, none⟩ = some (.bool n0) := (hB4.cell (by simp <;> omega)).trans hca0
  replace hfa0 : w4.frozen? ⟨w.heap.size, 0, none⟩ = false := (hB4.frozen (by simp <;> omega)).trans hfa0
  replace hca1 : w4.cell? ⟨w.heap.size, 1, none⟩ = some (.int .u64 h0) := (hB4.cell (by simp <;> omega)).trans hca1
  replace hfa1 : w4.frozen? ⟨w.heap.size, 1, none⟩ = false := (hB4.frozen (by simp <;> omega)).trans hfa1
  replace hca2 : w4.cell? ⟨w.heap.size, 2, none⟩ = some (.int .u64 l0) := (hB4.cell (by simp <;> omega)).trans hca2
  replace hfa2 : w4.frozen? ⟨w.heap.size, 2, none⟩ = false := (hB4.frozen (by simp <;> omega)).trans hfa2
  replace hcr0 : w4.cell? ⟨w.heap.size + 1, 0, none⟩ = some (.bool false) := (hB4.cell (by simp <;> omega)).trans hcr0
  replace hfr0 : w4.frozen? ⟨w.heap.size + 1, 0, none⟩ = false := (hB4.frozen (by simp <;> omega)).trans hfr0
  replace hcr1 : w4.cell? ⟨w.heap.size + 1, 1, none⟩ = some (.int .u64 0) := (hB4.cell (by simp <;> omega)).trans hcr1
  replace hfr1 : w4.frozen? ⟨w.heap.size + 1, 1, none⟩ = false := (hB4.frozen (by simp <;> omega)).trans hfr1
  replace hcr2 : w4.cell? ⟨w.heap.size + 1, 2, none⟩ = some (.int .u64 0) := (hB4.cell (by simp <;> omega)).trans hcr2
  replace hfr2 : w4.frozen? ⟨w.heap.size + 1, 2, none⟩ = false := (hB4.frozen (by simp <;> omega)).trans hfr2
  have HB4 : Hid (Below w.heap.size w w4) := HB3.out.trans (hB4.mono (by omega))
  have hs4 := Nat.le_trans hs3 hB4.size
  clear hB4 HB3 hs3
  go_wp2_with fail
  rw [HS.out]
  (try rw [show IntKind.u64.wrap (y + c) = y + c by rw [IntKind.wrap_u64]; omega])
  have g0 : w.heap.size < w4.heap.size := by omega
  have g1 : w.heap.size + 1 < w4.heap.size := by omega
  refine (specZero s (y + c) d _).mono ?_
  rintro e w5 ⟨rfl, hB5⟩
  rw [decide_eq_false hz]
  have hcr0 : w5.cell? ⟨w.heap.size + 1, 0, none⟩ = some (.bool false) := by rw [hB5.cell (by simp <;> omega)]; go_simp
  have hfr0 : w5.frozen? ⟨w.heap.size + 1, 0, none⟩ = false := by rw [hB5.frozen (by simp <;> omega)]; go_simp
  have hcr1 : w5.cell? ⟨w.heap.size + 1, 1, none⟩ = some (.int .u64 0) := by rw [hB5.cell (by simp <;> omega)]; go_simp
  have hfr1 : w5.frozen? ⟨w.heap.size + 1, 1, none⟩ = false := by rw [hB5.frozen (by simp <;> omega)]; go_simp
  have hcr2 : w5.cell? ⟨w.heap.size + 1, 2, none⟩ = some (.int .u64 0) := by rw [hB5.cell (by simp <;> omega)]; go_simp
  have hfr2 : w5.frozen? ⟨w.heap.size + 1, 2, none⟩ = false := by rw [hB5.frozen (by simp <;> omega)]; go_simp
  have hco0 : w5.cell? ⟨w4.heap.size, 0, none⟩ = some (.bool s) := by rw [hB5.cell (by simp <;> omega)]; go_simp
  have hfo0 : w5.frozen? ⟨w4.heap.size, 0, none⟩ = false := by rw [hB5.frozen (by simp <;> omega)]; go_simp
  have hco1 : w5.cell? ⟨w4.heap.size, 1, none⟩ = some (.int .u64 (y + c)) := by rw [hB5.cell (by simp <;> omega)]; go_simp
  have hfo1 : w5.frozen? ⟨w4.heap.size, 1, none⟩ = false := by rw [hB5.frozen (by simp <;> omega)]; go_simp
  have hco2 : w5.cell? ⟨w4.heap.size, 2, none⟩ = some (.int .u64 d) := by rw [hB5.cell (by simp <;> omega)]; go_simp
  have hfo2 : w5.frozen? ⟨w4.heap.size, 2, none⟩ = false := by rw [hB5.frozen (by simp <;> omega)]; go_simp
  have HB5 : Hid (Below w.heap.size w w5) := (HB4.out.alloc (by omega) _).trans (hB5.mono (by simp <;> omega))
  have hs5 : w4.heap.size + 1 ≤ w5.heap.size := by have := hB5.size; simpa using this
  have g2 : w.heap.size ≤ w5.heap.size := by omega
  have ne1 : ¬ (w.heap.size + 1 = w4.heap.size) := by omega
  have ne2 : ¬ (w4.heap.size = w.heap.size + 1) := by omega
  clear hB5
  go_wp2_with fail
  refine (specWideOk s (y + c) d _).mono ?_
  rintro e w6 ⟨rfl, hB6⟩
  rw [hk2]
  have hcr0 : w6.cell? ⟨w.heap.size + 1, 0, none⟩ = some (.bool false) := by rw [hB6.cell (by simp <;> omega)]; go_simp
  have hfr0 : w6.frozen? ⟨w.heap.size + 1, 0, none⟩ = false := by rw [hB6.frozen (by simp <;> omega)]; go_simp
  have hcr1 : w6.cell? ⟨w.heap.size + 1, 1, none⟩ = some (.int .u64 0) := by rw [hB6.cell (by simp <;> omega)]; go_simp
  have hfr1 : w6.frozen? ⟨w.heap.size + 1, 1, none⟩ = false := by rw [hB6.frozen (by simp <;> omega)]; go_simp
  have hcr2 : w6.cell? ⟨w.heap.size + 1, 2, none⟩ = some (.int .u64 0) := by rw [hB6.cell (by simp <;> omega)]; go_simp
  have hfr2 : w6.frozen? ⟨w.heap.size + 1, 2, none⟩ = false := by rw [hB6.frozen (by simp <;> omega)]; go_simp
  have hco0 : w6.cell? ⟨w4.heap.size, 0, none⟩ = some (.bool s) := by rw [hB6.cell (by simp <;> omega)]; go_simp
  have hfo0 : w6.frozen? ⟨w4.heap.size, 0, none⟩ = false := by rw [hB6.frozen (by simp <;> omega)]; go_simp
  have hco1 : w6.cell? ⟨w4.heap.size, 1, none⟩ = some (.int .u64 (y + c)) := by rw [hB6.cell (by simp <;> omega)]; go_simp
  have hfo1 : w6.frozen? ⟨w4.heap.size, 1, none⟩ = false := by rw [hB6.frozen (by simp <;> omega)]; go_simp
  have hco2 : w6.cell? ⟨w4.heap.size, 2, none⟩ = some (.int .u64 d) := by rw [hB6.cell (by simp <;> omega)]; go_simp
  have hfo2 : w6.frozen? ⟨w4.heap.size, 2, none⟩ = false := by rw [hB6.frozen (by simp <;> omega)]; go_simp
  have HB6 : Hid (Below w.heap.size w w6) := (HB5.out).trans (hB6.mono (by first | omega | (simp <;> omega)))
  clear hB6
  go_wp2_with fail
  (try simp only [Exit.inBlock, Exit.then])
  refine bodyPost_ret (v := .tuple #[.agg #[.bool s, .int .u64 (y + c), .int .u64 d], .bool true]) ?_ rfl ⟨scale_yes hp0 lp0 HX.out HC.out HS.out (by omega) hz (by omega) hyc d0 d1 hk0, ?_⟩
  · rw [results_cell_tmp rfl]
    go_simp
  · repeat' (first | assumption | exact Below.refl _ _ | exact HB6.out | refine Below.alloc ?_ (by simp <;> omega) _ | refine Below.setCell ?_ (by simp <;> omega) _)
set_option maxRecDepth 100000 in
set_option maxHeartbeats 2000000 in
theorem specScale_nz_no (n0 : Bool) (h0 l0 k : Int) (hp0 : 0 ≤ h0) (hq0 : h0 < 18446744073709551616) (lp0 : 0 ≤ l0) (lq0 : l0 < 18446744073709551616) (k0 : -9223372036854775808 ≤ k) (k1 : k ≤ 9223372036854775807) (hk0 : okV n0 h0 l0 = true) (x y c d : Int) (s : Bool) (x0 : 0 ≤ x) (y0 : 0 ≤ y) (y1 : y < 18446744073709551616) (c0 : 0 ≤ c) (c1 : c < 18446744073709551616) (d0 : 0 ≤ d) (d1 : d < 18446744073709551616) (HX : Hid (x * 18446744073709551616 + y = h0 * (k.natAbs : Int))) (HC : Hid (c * 18446744073709551616 + d = l0 * (k.natAbs : Int))) (HS : Hid ((!(n0 == decide (k < 0))) = s)) (hcar : y + c < 18446744073709551616) (hz : ¬ (y + c = 0 ∧ d = 0)) (hx0 : ¬ 0 < x) (hyc : ¬ y + c < 9223372036854775808) (hk2 : okV s (y + c) d = false) (w : World) :
    Calls Tryd.prog 48 #[.agg #[.bool n0, .int .u64 h0, .int .u64 l0], .int .i64 k] w fun e w' => e = scaleE n0 h0 l0 k ∧ Below w.heap.size w w' := by
  go_enter Tryd.func48, Tryd.ntmps48
  go_wp2_with fail
  refine (specWideOk n0 h0 l0 _).mono ?_
  rintro e w1 ⟨rfl, hB1⟩
  rw [hk0]
  have hca0 : w1.cell? ⟨w.heap.size, 0, none⟩ = some (.bool n0) := by rw [hB1.cell (by simp <;> omega)]; go_simp
  have hfa0 : w1.frozen? ⟨w.heap.size, 0, none⟩ = false := by rw [hB1.frozen (by simp <;> omega)]; go_simp
  have hca1 : w1.cell? ⟨w.heap.size, 1, none⟩ = some (.int .u64 h0) := by rw [hB1.cell (by simp <;> omega)]; go_simp
  have hfa1 : w1.frozen? ⟨w.heap.size, 1, none⟩ = false := by rw [hB1.frozen (by simp <;> omega)]; go_simp
  have hca2 : w1.cell? ⟨w.heap.size, 2, none⟩ = some (.int .u64 l0) := by rw [hB1.cell (by simp <;> omega)]; go_simp
  have hfa2 : w1.frozen? ⟨w.heap.size, 2, none⟩ = false := by rw [hB1.frozen (by simp <;> omega)]; go_simp
  have hcr0 : w1.cell? ⟨w.heap.size + 1, 0, none⟩ = some (.bool false) := by rw [hB1.cell (by simp <;> omega)]; go_simp
  have hfr0 : w1.frozen? ⟨w.heap.size + 1, 0, none⟩ = false := by rw [hB1.frozen (by simp <;> omega)]; go_simp
  have hcr1 : w1.cell? ⟨w.heap.size + 1, 1, none⟩ = some (.int .u64 0) := by rw [hB1.cell (by simp <;> omega)]; go_simp
  have hfr1 : w1.frozen? ⟨w.heap.size + 1, 1, none⟩ = false := by rw [hB1.frozen (by simp <;> omega)]; go_simp
  have hcr2 : w1.cell? ⟨w.heap.size + 1, 2, none⟩ = some (.int .u64 0) := by rw [hB1.cell (by simp <;> omega)]; go_simp
  have hfr2 : w1.frozen? ⟨w.heap.size + 1, 2, none⟩ = false := by rw [hB1.frozen (by simp <;> omega)]; go_simp
  have HB1 : Hid (Below w.heap.size w w1) := (((Below.refl _ _).alloc (Nat.le_refl _) _).alloc (by simp) _).trans (hB1.mono (by simp <;> omega))
  have hs1 : w.heap.size + 1 + 1 ≤ w1.heap.size := by have := hB1.size; simpa using this
  clear hB1
  go_wp2_with fail
  refine (specAbs k k0 k1 _).mono ?_
  rintro e w2 ⟨rfl, hB2⟩
  replace hca0 : w2.cell? ⟨w.heap.size, 0, none⟩ = some (.bool n0) := (hB2.cell (by simp <;> omega)).trans hca0
  replace hfa0 : w2.frozen? ⟨w.heap.size, 0, none⟩ = false := (hB2.frozen (by simp <;> omega)).trans hfa0
  replace hca1 : w2.cell? ⟨w.heap.size, 1, none⟩ = some (.int .u64 h0) := (hB2.cell (by simp <;> omega)).trans hca1
  replace hfa1 : w2.frozen? ⟨w.heap.size, 1, none⟩ = false := (hB2.frozen (by simp <;> omega)).trans hfa1
  replace hca2 : w2.cell? ⟨w.heap.size, 2, none⟩ = some (.int .u64 l0) := (hB2.cell (by simp <;> omega)).trans hca2
  replace hfa2 : w2.frozen? ⟨w.heap.size, 2, none⟩ = false := (hB2.frozen (by simp <;> omega)).trans hfa2
  replace hcr0 : w2.cell? ⟨w.heap.size + 1, 0, none⟩ = some (.bool false) := (hB2.cell (by simp <;> omega)).trans hcr0
  replace hfr0 : w2.frozen? ⟨w.heap.size + 1, 0, none⟩ = false := (hB2.frozen (by simp <;> omega)).trans hfr0
  replace hcr1 : w2.cell? ⟨w.heap.size + 1, 1, none⟩ = some (.int .u64 0) := (hB2.cell (by simp <;> omega)).trans hcr1
  replace hfr1 : w2.frozen? ⟨w.heap.size + 1, 1, none⟩ = false := (hB2.frozen (by simp <;> omega)).trans hfr1
  replace hcr2 : w2.cell? ⟨w.heap.size + 1, 2, none⟩ = some (.int .u64 0) := (hB2.cell (by simp <;> omega)).trans hcr2
  replace hfr2 : w2.frozen? ⟨w.heap.size + 1, 2, none⟩ = false := (hB2.frozen (by simp <;> omega)).trans hfr2
  have HB2 : Hid (Below w.heap.size w w2) := HB1.out.trans (hB2.mono (by omega))
  have hs2 := Nat.le_trans hs1 hB2.size
  clear hB2 HB1 hs1
  go_wp2_with fail
  refine (specProductAt h0 k.natAbs x y hp0 hq0 (by omega) (by omega) y0 y1 HX.out _).mono ?_
  rintro e w3 ⟨rfl, hB3⟩
  replace hca0 : w3.cell? ⟨w.heap.size, 0, none⟩ = some (.bool n0) := (hB3.cell (by simp <;> omega)).trans hca0
  replace hfa0 : w3.frozen? ⟨w.heap.size, 0, none⟩ = false := (hB3.frozen (by simp <;> omega)).trans hfa0
  replace hca1 : w3.cell? ⟨w.heap.size, 1, none⟩ = some (.int .u64 h0) := (hB3.cell (by simp <;> omega)).trans hca1
  replace hfa1 : w3.frozen? ⟨w.heap.size, 1, none⟩ = false := (hB3.frozen (by simp <;> omega)).trans hfa1
  replace hca2 : w3.cell? ⟨w.heap.size, 2, none⟩ = some (.int .u64 l0) := (hB3.cell (by simp <;> omega)).trans hca2
  replace hfa2 : w3.frozen? ⟨w.heap.size, 2, none⟩ = false := (hB3.frozen (by simp <;> omega)).trans hfa2
  replace hcr0 : w3.cell? ⟨w.heap.size + 1, 0, none⟩ = some (.bool false) := (hB3.cell (by simp <;> omega)).trans hcr0
  replace hfr0 : w3.frozen? ⟨w.heap.size + 1, 0, none⟩ = false := (hB3.frozen (by simp <;> omega)).trans hfr0
  replace hcr1 : w3.cell? ⟨w.heap.size + 1, 1, none⟩ = some (.int .u64 0) := (hB3.cell (by simp <;> omega)).trans hcr1
  replace hfr1 : w3.frozen? ⟨w.heap.size + 1, 1, none⟩ = false := (hB3.frozen (by simp <;> omega)).trans hfr1
  replace hcr2 : w3.cell? ⟨w.heap.size + 1, 2, none⟩ = some (.int .u64 0) := (hB3.cell (by simp <;> omega)).trans hcr2
  replace hfr2 : w3.frozen? ⟨w.heap.size + 1, 2, none⟩ = false := (hB3.frozen (by simp <;> omega)).trans hfr2
  have HB3 : Hid (Below w.heap.size w w3) := HB2.out.trans (hB3.mono (by omega))
  have hs3 := Nat.le_trans hs2 hB3.size
  clear hB3 HB2 hs2
  go_wp2_with fail
  refine (specProductAt l0 k.natAbs c d lp0 lq0 (by omega) (by omega) d0 d1 HC.out _).mono ?_
  rintro e w4 ⟨rfl, hB4⟩
  replace hca0 : w4.cell? ⟨w.heap.size, 0, none⟩ = some (.bool n0) := (hB4.cell (by simp <;> omega)).trans hca0
  replace hfa0 : w4.frozen? ⟨w.heap.size, 0, none⟩ = false := (hB4.frozen (by simp <;> omega)).trans hfa0
  replace hca1 : w4.cell? ⟨w.heap.size, 1, none⟩ = some (.int .u64 h0) := (hB4.cell (by simp <;> omega)).trans hca1
  replace hfa1 : w4.frozen? ⟨w.heap.size, 1, none⟩ = false := (hB4.frozen (by simp <;> omega)).trans hfa1
  replace hca2 : w4.cell? ⟨w.heap.size, 2, none⟩ = some (.int .u64 l0) := (hB4.cell (by simp <;> omega)).trans hca2
  replace hfa2 : w4.frozen? ⟨w.heap.size, 2, none⟩ = false := (hB4.frozen (by simp <;> omega)).trans hfa2
  replace hcr0 : w4.cell? ⟨w.heap.size + 1, 0, none⟩ = some (.bool false) := (hB4.cell (by simp <;> omega)).trans hcr0
  replace hfr0 : w4.frozen? ⟨w.heap.size + 1, 0, none⟩ = false := (hB4.frozen (by simp <;> omega)).trans hfr0
  replace hcr1 : w4.cell? ⟨w.heap.size + 1, 1, none⟩ = some (.int .u64 0) := (hB4.cell (by simp <;> omega)).trans hcr1
  replace hfr1 : w4.frozen? ⟨w.heap.size + 1, 1, none⟩ = false := (hB4.frozen (by simp <;> omega)).trans hfr1
  replace hcr2 : w4.cell? ⟨w.heap.size + 1, 2, none⟩ = some (.int .u64 0) := (hB4.cell (by simp <;> omega)).trans hcr2
  replace hfr2 : w4.frozen? ⟨w.heap.size + 1, 2, none⟩ = false := (hB4.frozen (by simp <;> omega)).trans hfr2
  have HB4 : Hid (Below w.heap.size w w4) := HB3.out.trans (hB4.mono (by omega))
  have hs4 := Nat.le_trans hs3 hB4.size
  clear hB4 HB3 hs3
  go_wp2_with fail
  rw [HS.out]
  (try rw [show IntKind.u64.wrap (y + c) = y + c by rw [IntKind.wrap_u64]; omega])
  have g0 : w.heap.size < w4.heap.size := by omega
  have g1 : w.heap.size + 1 < w4.heap.size := by omega
  refine (specZero s (y + c) d _).mono ?_
  rintro e w5 ⟨rfl, hB5⟩
  rw [decide_eq_false hz]
  have hcr0 : w5.cell? ⟨w.heap.size + 1, 0, none⟩ = some (.bool false) := by rw [hB5.cell (by simp <;> omega)]; go_simp
  have hfr0 : w5.frozen? ⟨w.heap.size + 1, 0, none⟩ = false := by rw [hB5.frozen (by simp <;> omega)]; go_simp
  have hcr1 : w5.cell? ⟨w.heap.size + 1, 1, none⟩ = some (.int .u64 0) := by rw [hB5.cell (by simp <;> omega)]; go_simp
  have hfr1 : w5.frozen? ⟨w.heap.size + 1, 1, none⟩ = false := by rw [hB5.frozen (by simp <;> omega)]; go_simp
  have hcr2 : w5.cell? ⟨w.heap.size + 1, 2, none⟩ = some (.int .u64 0) := by rw [hB5.cell (by simp <;> omega)]; go_simp
  have hfr2 : w5.frozen? ⟨w.heap.size + 1, 2, none⟩ = false := by rw [hB5.frozen (by simp <;> omega)]; go_simp
  have hco0 : w5.cell? ⟨w4.heap.size, 0, none⟩ = some (.bool s) := by rw [hB5.cell (by simp <;> omega)]; go_simp
  have hfo0 : w5.frozen? ⟨w4.heap.size, 0, none⟩ = false := by rw [hB5.frozen (by simp <;> omega)]; go_simp
  have hco1 : w5.cell? ⟨w4.heap.size, 1, none⟩ = some (.int .u64 (y + c)) := by rw [hB5.cell (by simp <;> omega)]; go_simp
  have hfo1 : w5.frozen? ⟨w4.heap.size, 1, none⟩ = false := by rw [hB5.frozen (by simp <;> omega)]; go_simp
  have hco2 : w5.cell? ⟨w4.heap.size, 2, none⟩ = some (.int .u64 d) := by rw [hB5.cell (by simp <;> omega)]; go_simp
  have hfo2 : w5.frozen? ⟨w4.heap.size, 2, none⟩ = false := by rw [hB5.frozen (by simp <;> omega)]; go_simp
  have HB5 : Hid (Below w.heap.size w w5) := (HB4.out.alloc (by omega) _).trans (hB5.mono (by simp <;> omega))
  have hs5 : w4.heap.size + 1 ≤ w5.heap.size := by have := hB5.size; simpa using this
  have g2 : w.heap.size ≤ w5.heap.size := by omega
  have ne1 : ¬ (w.heap.size + 1 = w4.heap.size) := by omega
  have ne2 : ¬ (w4.heap.size = w.heap.size + 1) := by omega
  clear hB5
  go_wp2_with fail
  refine (specWideOk s (y + c) d _).mono ?_
  rintro e w6 ⟨rfl, hB6⟩
  rw [hk2]
  have hcr0 : w6.cell? ⟨w.heap.size + 1, 0, none⟩ = some (.bool false) := by rw [hB6.cell (by simp <;> omega)]; go_simp
  have hfr0 : w6.frozen? ⟨w.heap.size + 1, 0, none⟩ = false := by rw [hB6.frozen (by simp <;> omega)]; go_simp
  have hcr1 : w6.cell? ⟨w.heap.size + 1, 1, none⟩ = some (.int .u64 0) := by rw [hB6.cell (by simp <;> omega)]; go_simp
  have hfr1 : w6.frozen? ⟨w.heap.size + 1, 1, none⟩ = false := by rw [hB6.frozen (by simp <;> omega)]; go_simp
  have hcr2 : w6.cell? ⟨w.heap.size + 1, 2, none⟩ = some (.int .u64 0) := by rw [hB6.cell (by simp <;> omega)]; go_simp
  have hfr2 : w6.frozen? ⟨w.heap.size + 1, 2, none⟩ = false := by rw [hB6.frozen (by simp <;> omega)]; go_simp
  have hco0 : w6.cell? ⟨w4.heap.size, 0, none⟩ = some (.bool s) := by rw [hB6.cell (by simp <;> omega)]; go_simp
  have hfo0 : w6.frozen? ⟨w4.heap.size, 0, none⟩ = false := by rw [hB6.frozen (by simp <;> omega)]; go_simp
  have hco1 : w6.cell? ⟨w4.heap.size, 1, none⟩ = some (.int .u64 (y + c)) := by rw [hB6.cell (by simp <;> omega)]; go_simp
  have hfo1 : w6.frozen? ⟨w4.heap.size, 1, none⟩ = false := by rw [hB6.frozen (by simp <;> omega)]; go_simp
  have hco2 : w6.cell? ⟨w4.heap.size, 2, none⟩ = some (.int .u64 d) := by rw [hB6.cell (by simp <;> omega)]; go_simp
  have hfo2 : w6.frozen? ⟨w4.heap.size, 2, none⟩ = false := by rw [hB6.frozen (by simp <;> omega)]; go_simp
  have HB6 : Hid (Below w.heap.size w w6) := (HB5.out).trans (hB6.mono (by first | omega | (simp <;> omega)))
  clear hB6
  go_wp2_with fail
  (try simp only [Exit.inBlock, Exit.then])
  refine bodyPost_ret (v := .tuple #[.agg #[.bool false, .int .u64 0, .int .u64 0], .bool false]) ?_ rfl ⟨scale_no hp0 lp0 HX.out HC.out x0 (by omega) d0 (.inr (by omega)) hk0, ?_⟩
  · rw [results_cell_tmp rfl]
    go_simp
  · repeat' (first | assumption | exact Below.refl _ _ | exact HB6.out | refine Below.alloc ?_ (by simp <;> omega) _ | refine Below.setCell ?_ (by simp <;> omega) _)
set_option maxRecDepth 100000 in
set_option maxHeartbeats 2000000 in
theorem specScale_car_z (n0 : Bool) (h0 l0 k : Int) (hp0 : 0 ≤ h0) (hq0 : h0 < 18446744073709551616) (lp0 : 0 ≤ l0) (lq0 : l0 < 18446744073709551616) (k0 : -9223372036854775808 ≤ k) (k1 : k ≤ 9223372036854775807) (hk0 : okV n0 h0 l0 = true) (x y c d : Int) (s : Bool) (x0 : 0 ≤ x) (y0 : 0 ≤ y) (y1 : y < 18446744073709551616) (c0 : 0 ≤ c) (c1 : c < 18446744073709551616) (d0 : 0 ≤ d) (d1 : d < 18446744073709551616) (HX : Hid (x * 18446744073709551616 + y = h0 * (k.natAbs : Int))) (HC : Hid (c * 18446744073709551616 + d = l0 * (k.natAbs : Int))) (HS : Hid ((!(n0 == decide (k < 0))) = s)) (hcar : ¬ y + c < 18446744073709551616) (HZ : Hid (y + c - 18446744073709551616 = 0 ∧ d = 0)) (w : World) :
    Calls Tryd.prog 48 #[.agg #[.bool n0, .int .u64 h0, .int .u64 l0], .int .i64 k] w fun e w' => e = scaleE n0 h0 l0 k ∧ Below w.heap.size w w' := by
  go_enter Tryd.func48, Tryd.ntmps48
  go_wp2_with fail
  refine (specWideOk n0 h0 l0 _).mono ?_
  rintro e w1 ⟨rfl, hB1⟩
  rw [hk0]
  have hca0 : w1.cell? ⟨w.heap.size, 0, none⟩ = some (.bool n0) := by rw [hB1.cell (by simp <;> omega)]; go_simp
  have hfa0 : w1.frozen? ⟨w.heap.size, 0, none⟩ = false := by rw [hB1.frozen (by simp <;> omega)]; go_simp
  have hca1 : w1.cell? ⟨w.heap.size, 1, none⟩ = some (.int .u64 h0) := by rw [hB1.cell (by simp <;> omega)]; go_simp
  have hfa1 : w1.frozen? ⟨w.heap.size, 1, none⟩ = false := by rw [hB1.frozen (by simp <;> omega)]; go_simp
  have hca2 : w1.cell? ⟨w.heap.size, 2, none⟩ = some (.int .u64 l0) := by rw [hB1.cell (by simp <;> omega)]; go_simp
  have hfa2 : w1.frozen? ⟨w.heap.size, 2, none⟩ = false := by rw [hB1.frozen (by simp <;> omega)]; go_simp
  have hcr0 : w1.cell? ⟨w.heap.size + 1, 0, none⟩ = some (.bool false) := by rw [hB1.cell (by simp <;> omega)]; go_simp
  have hfr0 : w1.frozen? ⟨w.heap.size + 1, 0, none⟩ = false := by rw [hB1.frozen (by simp <;> omega)]; go_simp
  have hcr1 : w1.cell? ⟨w.heap.size + 1, 1, none⟩ = some (.int .u64 0) := by rw [hB1.cell (by simp <;> omega)]; go_simp
  have hfr1 : w1.frozen? ⟨w.heap.size + 1, 1, none⟩ = false := by rw [hB1.frozen (by simp <;> omega)]; go_simp
  have hcr2 : w1.cell? ⟨w.heap.size + 1, 2, none⟩ = some (.int .u64 0) := by rw [hB1.cell (by simp <;> omega)]; go_simp
  have hfr2 : w1.frozen? ⟨w.heap.size + 1, 2, none⟩ = false := by rw [hB1.frozen (by simp <;> omega)]; go_simp
  have HB1 : Hid (Below w.heap.size w w1) := (((Below.refl _ _).alloc (Nat.le_refl _) _).alloc (by simp) _).trans (hB1.mono (by simp <;> omega))
  have hs1 : w.heap.size + 1 + 1 ≤ w1.heap.size := by have := hB1.size; simpa using this
  clear hB1
  go_wp2_with fail
  refine (specAbs k k0 k1 _).mono ?_
  rintro e w2 ⟨rfl, hB2⟩
  replace hca0 : w2.cell? ⟨w.heap.size, 0, none⟩ = some (.bool n0) := (hB2.cell (by simp <;> omega)).trans hca0
  replace hfa0 : w2.frozen? ⟨w.heap.size, 0, none⟩ = false := (hB2.frozen (by simp <;> omega)).trans hfa0
  replace hca1 : w2.cell? ⟨w.heap.size, 1, none⟩ = some (.int .u64 h0) := (hB2.cell (by simp <;> omega)).trans hca1
  replace hfa1 : w2.frozen? ⟨w.heap.size, 1, none⟩ = false := (hB2.frozen (by simp <;> omega)).trans hfa1
  replace hca2 : w2.cell? ⟨w.heap.size, 2, none⟩ = some (.int .u64 l0) := (hB2.cell (by simp <;> omega)).trans hca2
  replace hfa2 : w2.frozen? ⟨w.heap.size, 2, none⟩ = false := (hB2.frozen (by simp <;> omega)).trans hfa2
  replace hcr0 : w2.cell? ⟨w.heap.size + 1, 0, none⟩ = some (.bool false) := (hB2.cell (by simp <;> omega)).trans hcr0
  replace hfr0 : w2.frozen? ⟨w.heap.size + 1, 0, none⟩ = false := (hB2.frozen (by simp <;> omega)).trans hfr0
  replace hcr1 : w2.cell? ⟨w.heap.size + 1, 1, none⟩ = some (.int .u64 0) := (hB2.cell (by simp <;> omega)).trans hcr1
  replace hfr1 : w2.frozen? ⟨w.heap.size + 1, 1, none⟩ = false := (hB2.frozen (by simp <;> omega)).trans hfr1
  replace hcr2 : w2.cell? ⟨w.heap.size + 1, 2, none⟩ = some (.int .u64 0) := (hB2.cell (by simp <;> omega)).trans hcr2
  replace hfr2 : w2.frozen? ⟨w.heap.size + 1, 2, none⟩ = false := (hB2.frozen (by simp <;> omega)).trans hfr2
  have HB2 : Hid (Below w.heap.size w w2) := HB1.out.trans (hB2.mono (by omega))
  have hs2 := Nat.le_trans hs1 hB2.size
  clear hB2 HB1 hs1
  go_wp2_with fail
  refine (specProductAt h0 k.natAbs x y hp0 hq0 (by omega) (by omega) y0 y1 HX.out _).mono ?_
  rintro e w3 ⟨rfl, hB3⟩
  replace hca0 : w3.cell? ⟨w.heap.size, 0, none⟩ = some (.bool n0) := (hB3.cell (by simp <;> omega)).trans hca0
  replace hfa0 : w3.frozen? ⟨w.heap.size, 0, none⟩ = false := (hB3.frozen (by simp <;> omega)).trans hfa0
  replace hca1 : w3.cell? ⟨w.heap.size, 1, none⟩ = some (.int .u64 h0) := (hB3.cell (by simp <;> omega)).trans hca1
  replace hfa1 : w3.frozen? ⟨w.heap.size, 1, none⟩ = false := (hB3.frozen (by simp <;> omega)).trans hfa1
  replace hca2 : w3.cell? ⟨w.heap.size, 2, none⟩ = some (.int .u64 l0) := (hB3.cell (by simp <;> omega)).trans hca2
  replace hfa2 : w3.frozen? ⟨w.heap.size, 2, none⟩ = false := (hB3.frozen (by simp <;> omega)).trans hfa2
  replace hcr0 : w3.cell? ⟨w.heap.size + 1, 0, none⟩ = some (.bool false) := (hB3.cell (by simp <;> omega)).trans hcr0
  replace hfr0 : w3.frozen? ⟨w.heap.size + 1, 0, none⟩ = false := (hB3.frozen (by simp <;> omega)).trans hfr0
  replace hcr1 : w3.cell? ⟨w.heap.size + 1, 1, none⟩ = some (.int .u64 0) := (hB3.cell (by simp <;> omega)).trans hcr1
  replace hfr1 : w3.frozen? ⟨w.heap.size + 1, 1, none⟩ = false := (hB3.frozen (by simp <;> omega)).trans hfr1
  replace hcr2 : w3.cell? ⟨w.heap.size + 1, 2, none⟩ = some (.int .u64 0) := (hB3.cell (by simp <;> omega)).trans hcr2
  replace hfr2 : w3.frozen? ⟨w.heap.size + 1, 2, none⟩ = false := (hB3.frozen (by simp <;> omega)).trans hfr2
  have HB3 : Hid (Below w.heap.size w w3) := HB2.out.trans (hB3.mono (by omega))
  have hs3 := Nat.le_trans hs2 hB3.size
  clear hB3 HB2 hs2
  go_wp2_with fail
  refine (specProductAt l0 k.natAbs c d lp0 lq0 (by omega) (by omega) d0 d1 HC.out _).mono ?_
  rintro e w4 ⟨rfl, hB4⟩
  replace hca0 : w4.cell? ⟨w.heap.size, 0, none⟩ = some (.bool n0) := (hB4.cell (by simp <;> omega)).trans hca0
  replace hfa0 : w4.frozen? ⟨w.heap.size, 0, none⟩ = false := (hB4.frozen (by simp <;> omega)).trans hfa0
  replace hca1 : w4.cell? ⟨w.heap.size, 1, none⟩ = some (.int .u64 h0) := (hB4.cell (by simp <;> omega)).trans hca1
  replace hfa1 : w4.frozen? ⟨w.heap.size, 1, none⟩ = false := (hB4.frozen (by simp <;> omega)).trans hfa1
  replace hca2 : w4.cell? ⟨w.heap.size, 2, none⟩ = some (.int .u64 l0) := (hB4.cell (by simp <;> omega)).trans hca2
  replace hfa2 : w4.frozen? ⟨w.heap.size, 2, none⟩ = false := (hB4.frozen (by simp <;> omega)).trans hfa2
  replace hcr0 : w4.cell? ⟨w.heap.size + 1, 0, none⟩ = some (.bool false) := (hB4.cell (by simp <;> omega)).trans hcr0
  replace hfr0 : w4.frozen? ⟨w.heap.size + 1, 0, none⟩ = false := (hB4.frozen (by simp <;> omega)).trans hfr0
  replace hcr1 : w4.cell? ⟨w.heap.size + 1, 1, none⟩ = some (.int .u64 0) := (hB4.cell (by simp <;> omega)).trans hcr1
  replace hfr1 : w4.frozen? ⟨w.heap.size + 1, 1, none⟩ = false := (hB4.frozen (by simp <;> omega)).trans hfr1
  replace hcr2 : w4.cell? ⟨w.heap.size + 1, 2, none⟩ = some (.int .u64 0) := (hB4.cell (by simp <;> omega)).trans hcr2
  replace hfr2 : w4.frozen? ⟨w.heap.size + 1, 2, none⟩ = false := (hB4.frozen (by simp <;> omega)).trans hfr2
  have HB4 : Hid (Below w.heap.size w w4) := HB3.out.trans (hB4.mono (by omega))
  have hs4 := Nat.le_trans hs3 hB4.size
  clear hB4 HB3 hs3
  go_wp2_with fail
  rw [HS.out]
  have hwr : IntKind.u64.wrap (y + c) = y + c - 18446744073709551616 := by rw [IntKind.wrap_u64]; omega
  rw [hwr]
  have g0 : w.heap.size < w4.heap.size := by omega
  have g1 : w.heap.size + 1 < w4.heap.size := by omega
  refine (specZero s (y + c - 18446744073709551616) d _).mono ?_
  rintro e w5 ⟨rfl, hB5⟩
  rw [decide_eq_true HZ.out]
  have hcr0 : w5.cell? ⟨w.heap.size + 1, 0, none⟩ = some (.bool false) := by rw [hB5.cell (by simp <;> omega)]; go_simp
  have hfr0 : w5.frozen? ⟨w.heap.size + 1, 0, none⟩ = false := by rw [hB5.frozen (by simp <;> omega)]; go_simp
  have hcr1 : w5.cell? ⟨w.heap.size + 1, 1, none⟩ = some (.int .u64 0) := by rw [hB5.cell (by simp <;> omega)]; go_simp
  have hfr1 : w5.frozen? ⟨w.heap.size + 1, 1, none⟩ = false := by rw [hB5.frozen (by simp <;> omega)]; go_simp
  have hcr2 : w5.cell? ⟨w.heap.size + 1, 2, none⟩ = some (.int .u64 0) := by rw [hB5.cell (by simp <;> omega)]; go_simp
  have hfr2 : w5.frozen? ⟨w.heap.size + 1, 2, none⟩ = false := by rw [hB5.frozen (by simp <;> omega)]; go_simp
  have hco0 : w5.cell? ⟨w4.heap.size, 0, none⟩ = some (.bool s) := by rw [hB5.cell (by simp <;> omega)]; go_simp
  have hfo0 : w5.frozen? ⟨w4.heap.size, 0, none⟩ = false := by rw [hB5.frozen (by simp <;> omega)]; go_simp
  have hco1 : w5.cell? ⟨w4.heap.size, 1, none⟩ = some (.int .u64 (y + c - 18446744073709551616)) := by rw [hB5.cell (by simp <;> omega)]; go_simp
  have hfo1 : w5.frozen? ⟨w4.heap.size, 1, none⟩ = false := by rw [hB5.frozen (by simp <;> omega)]; go_simp
  have hco2 : w5.cell? ⟨w4.heap.size, 2, none⟩ = some (.int .u64 d) := by rw [hB5.cell (by simp <;> omega)]; go_simp
  have hfo2 : w5.frozen? ⟨w4.heap.size, 2, none⟩ = false := by rw [hB5.frozen (by simp <;> omega)]; go_simp
  have HB5 : Hid (Below w.heap.size w w5) := (HB4.out.alloc (by omega) _).trans (hB5.mono (by simp <;> omega))
  have hs5 : w4.heap.size + 1 ≤ w5.heap.size := by have := hB5.size; simpa using this
  have g2 : w.heap.size ≤ w5.heap.size := by omega
  have ne1 : ¬ (w.heap.size + 1 = w4.heap.size) := by omega
  have ne2 : ¬ (w4.heap.size = w.heap.size + 1) := by omega
  clear hB5
  go_wp2_with fail
  all_goals (try simp only [Exit.inBlock, Exit.then])
  all_goals refine bodyPost_ret (v := .tuple #[.agg #[.bool false, .int .u64 0, .int .u64 0], .bool false]) ?_ rfl ⟨scale_no hp0 lp0 HX.out HC.out x0 (by omega) d0 (.inr (by omega)) hk0, ?_⟩
  all_goals first
    | (rw [results_cell_tmp rfl]; go_simp; done)
    | repeat' (first | exact HB5.out | refine Below.setCell ?_ (by simp <;> omega) _)
set_option maxRecDepth 100000 in
set_option maxHeartbeats 2000000 in
theorem specScale_car_nz (n0 : Bool) (h0 l0 k : Int) (hp0 : 0 ≤ h0) (hq0 : h0 < 18446744073709551616) (lp0 : 0 ≤ l0) (lq0 : l0 < 18446744073709551616) (k0 : -9223372036854775808 ≤ k) (k1 : k ≤ 9223372036854775807) (hk0 : okV n0 h0 l0 = true) (x y c d : Int) (s : Bool) (x0 : 0 ≤ x) (y0 : 0 ≤ y) (y1 : y < 18446744073709551616) (c0 : 0 ≤ c) (c1 : c < 18446744073709551616) (d0 : 0 ≤ d) (d1 : d < 18446744073709551616) (HX : Hid (x * 18446744073709551616 + y = h0 * (k.natAbs : Int))) (HC : Hid (c * 18446744073709551616 + d = l0 * (k.natAbs : Int))) (HS : Hid ((!(n0 == decide (k < 0))) = s)) (hcar : ¬ y + c < 18446744073709551616) (hz : ¬ (y + c - 18446744073709551616 = 0 ∧ d = 0)) (w : World) :
    Calls Tryd.prog 48 #[.agg #[.bool n0, .int .u64 h0, .int .u64 l0], .int .i64 k] w fun e w' => e = scaleE n0 h0 l0 k ∧ Below w.heap.size w w' := by
  go_enter Tryd.func48, Tryd.ntmps48
  go_wp2_with fail
  refine (specWideOk n0 h0 l0 _).mono ?_
  rintro e w1 ⟨rfl, hB1⟩
  rw [hk0]
  have hca0 : w1.cell? ⟨w.heap.size, 0, none⟩ = some (.bool n0) := by rw [hB1.cell (by simp <;> omega)]; go_simp
  have hfa0 : w1.frozen? ⟨w.heap.size, 0, none⟩ = false := by rw [hB1.frozen (by simp <;> omega)]; go_simp
  have hca1 : w1.cell? ⟨w.heap.size, 1, none⟩ = some (.int .u64 h0) := by rw [hB1.cell (by simp <;> omega)]; go_simp
  have hfa1 : w1.frozen? ⟨w.heap.size, 1, none⟩ = false := by rw [hB1.frozen (by simp <;> omega)]; go_simp
  have hca2 : w1.cell? ⟨w.heap.size, 2, none⟩ = some (.int .u64 l0) := by rw [hB1.cell (by simp <;> omega)]; go_simp
  have hfa2 : w1.frozen? ⟨w.heap.size, 2, none⟩ = false := by rw [hB1.frozen (by simp <;> omega)]; go_simp
  have hcr0 : w1.cell? ⟨w.heap.size + 1, 0, none⟩ = some (.bool false) := by rw [hB1.cell (by simp <;> omega)]; go_simp
  have hfr0 : w1.frozen? ⟨w.heap.size + 1, 0, none⟩ = false := by rw [hB1.frozen (by simp <;> omega)]; go_simp
  have hcr1 : w1.cell? ⟨w.heap.size + 1, 1, none⟩ = some (.int .u64 0) := by rw [hB1.cell (by simp <;> omega)]; go_simp
  have hfr1 : w1.frozen? ⟨w.heap.size + 1, 1, none⟩ = false := by rw [hB1.frozen (by simp <;> omega)]; go_simp
  have hcr2 : w1.cell? ⟨w.heap.size + 1, 2, none⟩ = some (.int .u64 0) := by rw [hB1.cell (by simp <;> omega)]; go_simp
  have hfr2 : w1.frozen? ⟨w.heap.size + 1, 2, none⟩ = false := by rw [hB1.frozen (by simp <;> omega)]; go_simp
  have HB1 : Hid (Below w.heap.size w w1) := (((Below.refl _ _).alloc (Nat.le_refl _) _).alloc (by simp) _).trans (hB1.mono (by simp <;> omega))
  have hs1 : w.heap.size + 1 + 1 ≤ w1.heap.size := by have := hB1.size; simpa using this
  clear hB1
  go_wp2_with fail
  refine (specAbs k k0 k1 _).mono ?_
  rintro e w2 ⟨rfl, hB2⟩
  replace hca0 : w2.cell? ⟨w.heap.size, 0, none⟩ = some (.bool n0) := (hB2.cell (by simp <;> omega)).trans hca0
  replace hfa0 : w2.frozen? ⟨w.heap.size, 0, none⟩ = false := (hB2.frozen (by simp <;> omega)).trans hfa0
  replace hca1 : w2.cell? ⟨w.heap.size, 1, none⟩ = some (.int .u64 h0) := (hB2.cell (by simp <;> omega)).trans hca1
  replace hfa1 : w2.frozen? ⟨w.heap.size, 1, none⟩ = false := (hB2.frozen (by simp <;> omega)).trans hfa1
  replace hca2 : w2.cell? ⟨w.heap.size, 2, none⟩ = some (.int .u64 l0) := (hB2.cell (by simp <;> omega)).trans hca2
  replace hfa2 : w2.frozen? ⟨w.heap.size, 2, none⟩ = false := (hB2.frozen (by simp <;> omega)).trans hfa2
  replace hcr0 : w2.cell? ⟨w.heap.size + 1, 0, none⟩ = some (.bool false) := (hB2.cell (by simp <;> omega)).trans hcr0
  replace hfr0 : w2.frozen? ⟨w.heap.size + 1, 0, none⟩ = false := (hB2.frozen (by simp <;> omega)).trans hfr0
  replace hcr1 : w2.cell? ⟨w.heap.size + 1, 1, none⟩ = some (.int .u64 0) := (hB2.cell (by simp <;> omega)).trans hcr1
  replace hfr1 : w2.frozen? ⟨w.heap.size + 1, 1, none⟩ = false := (hB2.frozen (by simp <;> omega)).trans hfr1
  replace hcr2 : w2.cell? ⟨w.heap.size + 1, 2, none⟩ = some (.int .u64 0) := (hB2.cell (by simp <;> omega)).trans hcr2
  replace hfr2 : w2.frozen? ⟨w.heap.size + 1, 2, none⟩ = false := (hB2.frozen (by simp <;> omega)).trans hfr2
  have HB2 : Hid (Below w.heap.size w w2) := HB1.out.trans (hB2.mono (by omega))
  have hs2 := Nat.le_trans hs1 hB2.size
  clear hB2 HB1 hs1
  go_wp2_with fail
  refine (specProductAt h0 k.natAbs x y hp0 hq0 (by omega) (by omega) y0 y1 HX.out _).mono ?_
  rintro e w3 ⟨rfl, hB3⟩
  replace hca0 : w3.cell? ⟨w.heap.size, 0, none⟩ = some (.bool n0) := (hB3.cell (by simp <;> omega)).trans hca0
  replace hfa0 : w3.frozen? ⟨w.heap.size, 0, none⟩ = false := (hB3.frozen (by simp <;> omega)).trans hfa0
  replace hca1 : w3.cell? ⟨w.heap.size, 1, none⟩ = some (.int .u64 h0) := (hB3.cell (by simp <;> omega)).trans hca1
  replace hfa1 : w3.frozen? ⟨w.heap.size, 1, none⟩ = false := (hB3.frozen (by simp <;> omega)).trans hfa1
  replace hca2 : w3.cell? ⟨w.heap.size, 2, none⟩ = some (.int .u64 l0) := (hB3.cell (by simp <;> omega)).trans hca2
  replace hfa2 : w3.frozen? ⟨w.heap.size, 2, none⟩ = false := (hB3.frozen (by simp <;> omega)).trans hfa2
  replace hcr0 : w3.cell? ⟨w.heap.size + 1, 0, none⟩ = some (.bool false) := (hB3.cell (by simp <;> omega)).trans hcr0
  replace hfr0 : w3.frozen? ⟨w.heap.size + 1, 0, none⟩ = false := (hB3.frozen (by simp <;> omega)).trans hfr0
  replace hcr1 : w3.cell? ⟨w.heap.size + 1, 1, none⟩ = some (.int .u64 0) := (hB3.cell (by simp <;> omega)).trans hcr1
  replace hfr1 : w3.frozen? ⟨w.heap.size + 1, 1, none⟩ = false := (hB3.frozen (by simp <;> omega)).trans hfr1
  replace hcr2 : w3.cell? ⟨w.heap.size + 1, 2, none⟩ = some (.int .u64 0) := (hB3.cell (by simp <;> omega)).trans hcr2
  replace hfr2 : w3.frozen? ⟨w.heap.size + 1, 2, none⟩ = false := (hB3.frozen (by simp <;> omega)).trans hfr2
  have HB3 : Hid (Below w.heap.size w w3) := HB2.out.trans (hB3.mono (by omega))
  have hs3 := Nat.le_trans hs2 hB3.size
  clear hB3 HB2 hs2
  go_wp2_with fail
  refine (specProductAt l0 k.natAbs c d lp0 lq0 (by omega) (by omega) d0 d1 HC.out _).mono ?_
  rintro e w4 ⟨rfl, hB4⟩
  replace hca0 : w4.cell? ⟨w.heap.size, 0, none⟩ = some (.bool n0) := (hB4.cell (by simp <;> omega)).trans hca0
  replace hfa0 : w4.frozen? ⟨w.heap.size, 0, none⟩ = false := (hB4.frozen (by simp <;> omega)).trans hfa0
  replace hca1 : w4.cell? ⟨w.heap.size, 1, none⟩ = some (.int .u64 h0) := (hB4.cell (by simp <;> omega)).trans hca1
  replace hfa1 : w4.frozen? ⟨w.heap.size, 1, none⟩ = false := (hB4.frozen (by simp <;> omega)).trans hfa1
  replace hca2 : w4.cell? ⟨w.heap.size, 2, none⟩ = some (.int .u64 l0) := (hB4.cell (by simp <;> omega)).trans hca2
  replace hfa2 : w4.frozen? ⟨w.heap.size, 2, none⟩ = false := (hB4.frozen (by simp <;> omega)).trans hfa2
  replace hcr0 : w4.cell? ⟨w.heap.size + 1, 0, none⟩ = some (.bool false) := (hB4.cell (by simp <;> omega)).trans hcr0
  replace hfr0 : w4.frozen? ⟨w.heap.size + 1, 0, none⟩ = false := (hB4.frozen (by simp <;> omega)).trans hfr0
  replace hcr1 : w4.cell? ⟨w.heap.size + 1, 1, none⟩ = some (.int .u64 0) := (hB4.cell (by simp <;> omega)).trans hcr1
  replace hfr1 : w4.frozen? ⟨w.heap.size + 1, 1, none⟩ = false := (hB4.frozen (by simp <;> omega)).trans hfr1
  replace hcr2 : w4.cell? ⟨w.heap.size + 1, 2, none⟩ = some (.int .u64 0) := (hB4.cell (by simp <;> omega)).trans hcr2
  replace hfr2 : w4.frozen? ⟨w.heap.size + 1, 2, none⟩ = false := (hB4.frozen (by simp <;> omega)).trans hfr2
  have HB4 : Hid (Below w.heap.size w w4) := HB3.out.trans (hB4.mono (by omega))
  have hs4 := Nat.le_trans hs3 hB4.size
  clear hB4 HB3 hs3
  go_wp2_with fail
  rw [HS.out]
  have hwr : IntKind.u64.wrap (y + c) = y + c - 18446744073709551616 := by rw [IntKind.wrap_u64]; omega
  rw [hwr]
  have g0 : w.heap.size < w4.heap.size := by omega
  have g1 : w.heap.size + 1 < w4.heap.size := by omega
  refine (specZero s (y + c - 18446744073709551616) d _).mono ?_
  rintro e w5 ⟨rfl, hB5⟩
  rw [decide_eq_false hz]
  have hcr0 : w5.cell? ⟨w.heap.size + 1, 0, none⟩ = some (.bool false) := by rw [hB5.cell (by simp <;> omega)]; go_simp
  have hfr0 : w5.frozen? ⟨w.heap.size + 1, 0, none⟩ = false := by rw [hB5.frozen (by simp <;> omega)]; go_simp
  have hcr1 : w5.cell? ⟨w.heap.size + 1, 1, none⟩ = some (.int .u64 0) := by rw [hB5.cell (by simp <;> omega)]; go_simp
  have hfr1 : w5.frozen? ⟨w.heap.size + 1, 1, none⟩ = false := by rw [hB5.frozen (by simp <;> omega)]; go_simp
  have hcr2 : w5.cell? ⟨w.heap.size + 1, 2, none⟩ = some (.int .u64 0) := by rw [hB5.cell (by simp <;> omega)]; go_simp
  have hfr2 : w5.frozen? ⟨w.heap.size + 1, 2, none⟩ = false := by rw [hB5.frozen (by simp <;> omega)]; go_simp
  have hco0 : w5.cell? ⟨w4.heap.size, 0, none⟩ = some (.bool s) := by rw [hB5.cell (by simp <;> omega)]; go_simp
  have hfo0 : w5.frozen? ⟨w4.heap.size, 0, none⟩ = false := by rw [hB5.frozen (by simp <;> omega)]; go_simp
  have hco1 : w5.cell? ⟨w4.heap.size, 1, none⟩ = some (.int .u64 (y + c - 18446744073709551616)) := by rw [hB5.cell (by simp <;> omega)]; go_simp
  have hfo1 : w5.frozen? ⟨w4.heap.size, 1, none⟩ = false := by rw [hB5.frozen (by simp <;> omega)]; go_simp
  have hco2 : w5.cell? ⟨w4.heap.size, 2, none⟩ = some (.int .u64 d) := by rw [hB5.cell (by simp <;> omega)]; go_simp
  have hfo2 : w5.frozen? ⟨w4.heap.size, 2, none⟩ = false := by rw [hB5.frozen (by simp <;> omega)]; go_simp
  have HB5 : Hid (Below w.heap.size w w5) := (HB4.out.alloc (by omega) _).trans (hB5.mono (by simp <;> omega))
  have hs5 : w4.heap.size + 1 ≤ w5.heap.size := by have := hB5.size; simpa using this
  have g2 : w.heap.size ≤ w5.heap.size := by omega
  have ne1 : ¬ (w.heap.size + 1 = w4.heap.size) := by omega
  have ne2 : ¬ (w4.heap.size = w.heap.size + 1) := by omega
  clear hB5
  go_wp2_with fail
  all_goals (try simp only [Exit.inBlock, Exit.then])
  all_goals refine bodyPost_ret (v := .tuple #[.agg #[.bool false, .int .u64 0, .int .u64 0], .bool false]) ?_ rfl ⟨scale_no hp0 lp0 HX.out HC.out x0 (by omega) d0 (.inr (by omega)) hk0, ?_⟩
  all_goals first
    | (rw [results_cell_tmp rfl]; go_simp; done)
    | repeat' (first | exact HB5.out | refine Below.setCell ?_ (by simp <;> omega) _)
theorem specScale_ok (n0 : Bool) (h0 l0 k : Int) (hp0 : 0 ≤ h0) (hq0 : h0 < 18446744073709551616) (lp0 : 0 ≤ l0) (lq0 : l0 < 18446744073709551616) (k0 : -9223372036854775808 ≤ k) (k1 : k ≤ 9223372036854775807) (hk0 : okV n0 h0 l0 = true) (w : World) :
    Calls Tryd.prog 48 #[.agg #[.bool n0, .int .u64 h0, .int .u64 l0], .int .i64 k] w fun e w' => e = scaleE n0 h0 l0 k ∧ Below w.heap.size w w' := by
  obtain ⟨x, y, x0, _, y0, y1, hX⟩ := split128 h0 k.natAbs hp0 hq0 (by omega) (by omega)
  obtain ⟨c, d, c0, c1, d0, d1, hC⟩ := split128 l0 k.natAbs lp0 lq0 (by omega) (by omega)
  by_cases hcar : y + c < 18446744073709551616
  · by_cases hz : y + c = 0 ∧ d = 0
    · by_cases hx0 : 0 < x
      · exact specScale_z_big n0 h0 l0 k hp0 hq0 lp0 lq0 k0 k1 hk0 x y c d _ x0 y0 y1 c0 c1 d0 d1 hX hC rfl hcar hz hx0 w
      · exact specScale_z_ok n0 h0 l0 k hp0 hq0 lp0 lq0 k0 k1 hk0 x y c d _ x0 y0 y1 c0 c1 d0 d1 hX hC rfl hcar hz hx0 (okV_mk (by omega) (fun k => by cases k)) w
    · by_cases hx0 : 0 < x
      · exact specScale_nz_big n0 h0 l0 k hp0 hq0 lp0 lq0 k0 k1 hk0 x y c d _ x0 y0 y1 c0 c1 d0 d1 hX hC rfl hcar hz hx0 w
      · by_cases hyc : y + c < 9223372036854775808
        · exact specScale_nz_ok n0 h0 l0 k hp0 hq0 lp0 lq0 k0 k1 hk0 x y c d _ x0 y0 y1 c0 c1 d0 d1 hX hC rfl hz hx0 hyc (okV_mk hyc (fun _ => by omega)) w
        · exact specScale_nz_no n0 h0 l0 k hp0 hq0 lp0 lq0 k0 k1 hk0 x y c d _ x0 y0 y1 c0 c1 d0 d1 hX hC rfl hcar hz hx0 hyc (okV_big hyc) w
  · by_cases hz : y + c - 18446744073709551616 = 0 ∧ d = 0
    · exact specScale_car_z n0 h0 l0 k hp0 hq0 lp0 lq0 k0 k1 hk0 x y c d _ x0 y0 y1 c0 c1 d0 d1 hX hC rfl hcar hz w
    · exact specScale_car_nz n0 h0 l0 k hp0 hq0 lp0 lq0 k0 k1 hk0 x y c d _ x0 y0 y1 c0 c1 d0 d1 hX hC rfl hcar hz w
theorem specScaleWide (n0 : Bool) (h0 l0 k : Int) (hp0 : 0 ≤ h0) (hq0 : h0 < 18446744073709551616) (lp0 : 0 ≤ l0) (lq0 : l0 < 18446744073709551616) (k0 : -9223372036854775808 ≤ k) (k1 : k ≤ 9223372036854775807) (w : World) :
    Calls Tryd.prog 48 #[.agg #[.bool n0, .int .u64 h0, .int .u64 l0], .int .i64 k] w fun e w' => e = scaleE n0 h0 l0 k ∧ Below w.heap.size w w' := by
  by_cases hk0 : okV n0 h0 l0 = true
  · exact specScale_ok n0 h0 l0 k hp0 hq0 lp0 lq0 k0 k1 hk0 w
  · exact specScale_no n0 h0 l0 k (by simpa using hk0) w
end Go.Proofs.YtapdocfifgnjgaaDoor
