
/-
  A wide number divided by ten: the reference's way.
-/
import Derived.Test.YtapdocfifgnjgaaDoorPk4
import Derived.Test.YtapdocfifgnjgaaDoorWideM
import Derived.Deep.RegionHeld3
namespace Go.Proofs.YtapdocfifgnjgaaDoor
open Go.RowKit

set_option maxRecDepth 100000 in
set_option maxHeartbeats 2000000 in
theorem specTenAt (n0 : Bool) (h0 l0 p0 p1 p2 p3 q0 q1 q2 q3 r1 r2 r3 r4 : Int) (hp0 : 0 ≤ h0) (hq0 : h0 < 18446744073709551616) (lp0 : 0 ≤ l0) (lq0 : l0 < 18446744073709551616)
    (e0 : h0 / 4294967296 = p0) (e1 : h0 % 4294967296 = p1) (e2 : l0 / 4294967296 = p2) (e3 : l0 % 4294967296 = p3)
    (d0 : p0 / 10 = q0) (c1 : p0 % 10 = r1) (d1 : (r1 * 4294967296 + p1) / 10 = q1) (c2 : (r1 * 4294967296 + p1) % 10 = r2) (d2 : (r2 * 4294967296 + p2) / 10 = q2) (c3 : (r2 * 4294967296 + p2) % 10 = r3) (d3 : (r3 * 4294967296 + p3) / 10 = q3) (c4 : (r3 * 4294967296 + p3) % 10 = r4) (w : World) :
    Calls Tryd.prog 69 #[.agg #[.bool n0, .int .u64 h0, .int .u64 l0]] w fun e w' => e = .returned (.tuple #[.agg #[.bool false, .int .u64 (q0 * 4294967296 + q1), .int .u64 (q2 * 4294967296 + q3)], .int .i64 r4]) ∧ Below w.heap.size w w' := by
  have ka := u64_and32 h0
  have kb := u64_and32 l0
  have b0 : 0 ≤ p0 ∧ p0 < 4294967296 := by omega
  have b1 : 0 ≤ p1 ∧ p1 < 4294967296 := by omega
  have b2 : 0 ≤ p2 ∧ p2 < 4294967296 := by omega
  have b3 : 0 ≤ p3 ∧ p3 < 4294967296 := by omega
  have s1 : 0 ≤ r1 ∧ r1 < 10 := by omega
  have s2 : 0 ≤ r2 ∧ r2 < 10 := by omega
  have s3 : 0 ≤ r3 ∧ r3 < 10 := by omega
  have s4 : 0 ≤ r4 ∧ r4 < 10 := by omega
  have t0 : 0 ≤ q0 ∧ q0 < 4294967296 := by omega
  have t1 : 0 ≤ q1 ∧ q1 < 4294967296 := by omega
  have t2 : 0 ≤ q2 ∧ q2 < 4294967296 := by omega
  have t3 : 0 ≤ q3 ∧ q3 < 4294967296 := by omega
  go_enter Tryd.func69, Tryd.ntmps69
  go_wp2_with fail
  go_loopw [5, 6] (fun s i wr => ((s = .int .u64 (0) ∧ i = .int .i64 0 ∧ wr.cell? ⟨(w.heap.size + 1 + 1), 0, none⟩ = some (.int .u64 p0) ∧ wr.cell? ⟨(w.heap.size + 1 + 1), 1, none⟩ = some (.int .u64 p1) ∧ wr.cell? ⟨(w.heap.size + 1 + 1), 2, none⟩ = some (.int .u64 p2) ∧ wr.cell? ⟨(w.heap.size + 1 + 1), 3, none⟩ = some (.int .u64 p3)) ∨ (s = .int .u64 (r1) ∧ i = .int .i64 1 ∧ wr.cell? ⟨(w.heap.size + 1 + 1), 0, none⟩ = some (.int .u64 q0) ∧ wr.cell? ⟨(w.heap.size + 1 + 1), 1, none⟩ = some (.int .u64 p1) ∧ wr.cell? ⟨(w.heap.size + 1 + 1), 2, none⟩ = some (.int .u64 p2) ∧ wr.cell? ⟨(w.heap.size + 1 + 1), 3, none⟩ = some (.int .u64 p3)) ∨ (s = .int .u64 (r2) ∧ i = .int .i64 2 ∧ wr.cell? ⟨(w.heap.size + 1 + 1), 0, none⟩ = some (.int .u64 q0) ∧ wr.cell? ⟨(w.heap.size + 1 + 1), 1, none⟩ = some (.int .u64 q1) ∧ wr.cell? ⟨(w.heap.size + 1 + 1), 2, none⟩ = some (.int .u64 p2) ∧ wr.cell? ⟨(w.heap.size + 1 + 1), 3, none⟩ = some (.int .u64 p3)) ∨ (s = .int .u64 (r3) ∧ i = .int .i64 3 ∧ wr.cell? ⟨(w.heap.size + 1 + 1), 0, none⟩ = some (.int .u64 q0) ∧ wr.cell? ⟨(w.heap.size + 1 + 1), 1, none⟩ = some (.int .u64 q1) ∧ wr.cell? ⟨(w.heap.size + 1 + 1), 2, none⟩ = some (.int .u64 q2) ∧ wr.cell? ⟨(w.heap.size + 1 + 1), 3, none⟩ = some (.int .u64 p3)) ∨ (s = .int .u64 (r4) ∧ i = .int .i64 4 ∧ wr.cell? ⟨(w.heap.size + 1 + 1), 0, none⟩ = some (.int .u64 q0) ∧ wr.cell? ⟨(w.heap.size + 1 + 1), 1, none⟩ = some (.int .u64 q1) ∧ wr.cell? ⟨(w.heap.size + 1 + 1), 2, none⟩ = some (.int .u64 q2) ∧ wr.cell? ⟨(w.heap.size + 1 + 1), 3, none⟩ = some (.int .u64 q3))) ∧ (wr.cell? ⟨(w.heap.size + 1), 0, none⟩ = some (.bool false) ∧ wr.cell? ⟨(w.heap.size + 1), 1, none⟩ = some (.int .u64 0) ∧ wr.cell? ⟨(w.heap.size + 1), 2, none⟩ = some (.int .u64 0) ∧ (∀ k, wr.frozen? ⟨(w.heap.size + 1 + 1), k, none⟩ = false) ∧ (∀ k, wr.frozen? ⟨(w.heap.size + 1), k, none⟩ = false) ∧ Below w.heap.size w wr)) (fun _ i _ => 4 - (intOf i).toNat)
  case atStart =>
    obtain ⟨_, hR, hD, hB, _⟩ := box3 (w := w) (a := #[.bool n0, .int .u64 h0, .int .u64 l0]) (b := #[.bool false, .int .u64 0, .int .u64 0]) (r := #[.int .u64 p0, .int .u64 p1, .int .u64 p2, .int .u64 p3]) (T := 26) (U := 26) (V := 24) (Below.refl _ _)
    exact ⟨Or.inl ⟨rfl, rfl, cell_blk hD 0, cell_blk hD 1, cell_blk hD 2, cell_blk hD 3⟩, cell_blk hR 0, cell_blk hR 1, cell_blk hR 2, fun k => free_blk hD k, fun k => free_blk hR k, hB⟩
  case round =>
    obtain ⟨hc, z0, z1, z2, fD, fR, hB⟩ := hrel
    rcases hc with ⟨rfl, rfl, ya0, yb0, yc0, yd0⟩ | ⟨rfl, rfl, ya1, yb1, yc1, yd1⟩ | ⟨rfl, rfl, ya2, yb2, yc2, yd2⟩ | ⟨rfl, rfl, ya3, yb3, yc3, yd3⟩ | ⟨rfl, rfl, ya4, yb4, yc4, yd4⟩
    · go_wp2_with fail
      go_roundw
      case rel => exact ⟨Or.inr (Or.inl ⟨by rw [c1], by go_num, World.cell?_setCell_same _ _ _ ya0, (World.cell?_setCell_other _ _ _ _ (fun e => by cases e)).trans yb0, (World.cell?_setCell_other _ _ _ _ (fun e => by cases e)).trans yc0, (World.cell?_setCell_other _ _ _ _ (fun e => by cases e)).trans yd0⟩), (World.cell?_setCell_far _ _ _ _ (by simp)).trans z0, (World.cell?_setCell_far _ _ _ _ (by simp)).trans z1, (World.cell?_setCell_far _ _ _ _ (by simp)).trans z2, fun j => (World.frozen?_setCell _ _ _ _).trans (fD j), fun j => (World.frozen?_setCell _ _ _ _).trans (fR j), hB.setCell (by simp <;> omega) _⟩
      case measure => simp [intOf]
    · go_wp2_with fail
      go_roundw
      case rel => exact ⟨Or.inr (Or.inr (Or.inl ⟨by rw [c2], by go_num, (World.cell?_setCell_other _ _ _ _ (fun e => by cases e)).trans ya1, World.cell?_setCell_same _ _ _ yb1, (World.cell?_setCell_other _ _ _ _ (fun e => by cases e)).trans yc1, (World.cell?_setCell_other _ _ _ _ (fun e => by cases e)).trans yd1⟩)), (World.cell?_setCell_far _ _ _ _ (by simp)).trans z0, (World.cell?_setCell_far _ _ _ _ (by simp)).trans z1, (World.cell?_setCell_far _ _ _ _ (by simp)).trans z2, fun j => (World.frozen?_setCell _ _ _ _).trans (fD j), fun j => (World.frozen?_setCell _ _ _ _).trans (fR j), hB.setCell (by simp <;> omega) _⟩
      case measure => simp [intOf]
    · go_wp2_with fail
      go_roundw
      case rel => exact ⟨Or.inr (Or.inr (Or.inr (Or.inl ⟨by rw [c3], by go_num, (World.cell?_setCell_other _ _ _ _ (fun e => by cases e)).trans ya2, (World.cell?_setCell_other _ _ _ _ (fun e => by cases e)).trans yb2, World.cell?_setCell_same _ _ _ yc2, (World.cell?_setCell_other _ _ _ _ (fun e => by cases e)).trans yd2⟩))), (World.cell?_setCell_far _ _ _ _ (by simp)).trans z0, (World.cell?_setCell_far _ _ _ _ (by simp)).trans z1, (World.cell?_setCell_far _ _ _ _ (by simp)).trans z2, fun j => (World.frozen?_setCell _ _ _ _).trans (fD j), fun j => (World.frozen?_setCell _ _ _ _).trans (fR j), hB.setCell (by simp <;> omega) _⟩
      case measure => simp [intOf]
    · go_wp2_with fail
      go_roundw
      case rel => exact ⟨Or.inr (Or.inr (Or.inr (Or.inr (⟨by rw [c4], by go_num, (World.cell?_setCell_other _ _ _ _ (fun e => by cases e)).trans ya3, (World.cell?_setCell_other _ _ _ _ (fun e => by cases e)).trans yb3, (World.cell?_setCell_other _ _ _ _ (fun e => by cases e)).trans yc3, World.cell?_setCell_same _ _ _ yd3⟩)))), (World.cell?_setCell_far _ _ _ _ (by simp)).trans z0, (World.cell?_setCell_far _ _ _ _ (by simp)).trans z1, (World.cell?_setCell_far _ _ _ _ (by simp)).trans z2, fun j => (World.frozen?_setCell _ _ _ _).trans (fD j), fun j => (World.frozen?_setCell _ _ _ _).trans (fR j), hB.setCell (by simp <;> omega) _⟩
      case measure => simp [intOf]
    · go_wp2_with fail
      go_region_held3 (fun w' => w'.cell? ⟨(w.heap.size + 1 + 1), 0, none⟩ = some (.int .u64 q0) ∧ w'.cell? ⟨(w.heap.size + 1 + 1), 1, none⟩ = some (.int .u64 q1) ∧ w'.cell? ⟨(w.heap.size + 1 + 1), 2, none⟩ = some (.int .u64 q2) ∧ w'.cell? ⟨(w.heap.size + 1 + 1), 3, none⟩ = some (.int .u64 q3)) (first | exact ⟨ya4, yb4, yc4, yd4⟩ | go_keep) (fail)
      go_wp2_with fail
      (try simp only [Exit.inBlock, Exit.then])
      refine bodyPost_ret (v := .tuple #[.agg #[.bool false, .int .u64 (q0 * 4294967296 + q1), .int .u64 (q2 * 4294967296 + q3)], .int .i64 r4]) ?_ rfl ⟨rfl, ?_⟩
      · rw [results_cell_tmp rfl]
        go_simp
        rw [IntKind.wrap_u64, IntKind.wrap_u64, IntKind.wrap_u64, IntKind.wrap_u64, IntKind.wrap_i64]
        omega
      · repeat' (first | assumption | refine Below.drew ?_ | refine Below.setCell ?_ (by simp <;> omega) _)
theorem specTen (n0 : Bool) (v : Int) (v0 : 0 ≤ v) (v1 : v < 340282366920938463463374607431768211456) (w : World) :
    Calls Tryd.prog 69 #[.agg #[.bool n0, .int .u64 (v / 18446744073709551616), .int .u64 (v % 18446744073709551616)]] w fun e w' => e = .returned (.tuple #[.agg #[.bool false, .int .u64 (v / 10 / 18446744073709551616), .int .u64 (v / 10 % 18446744073709551616)], .int .i64 (v % 10)]) ∧ Below w.heap.size w w' := by
  obtain ⟨p0, e0⟩ : ∃ p, v / 18446744073709551616 / 4294967296 = p := ⟨_, rfl⟩
  obtain ⟨p1, e1⟩ : ∃ p, v / 18446744073709551616 % 4294967296 = p := ⟨_, rfl⟩
  obtain ⟨p2, e2⟩ : ∃ p, v % 18446744073709551616 / 4294967296 = p := ⟨_, rfl⟩
  obtain ⟨p3, e3⟩ : ∃ p, v % 18446744073709551616 % 4294967296 = p := ⟨_, rfl⟩
  obtain ⟨q0, d0⟩ : ∃ p, p0 / 10 = p := ⟨_, rfl⟩
  obtain ⟨r1, c1⟩ : ∃ p, p0 % 10 = p := ⟨_, rfl⟩
  obtain ⟨q1, d1⟩ : ∃ p, (r1 * 4294967296 + p1) / 10 = p := ⟨_, rfl⟩
  obtain ⟨r2, c2⟩ : ∃ p, (r1 * 4294967296 + p1) % 10 = p := ⟨_, rfl⟩
  obtain ⟨q2, d2⟩ : ∃ p, (r2 * 4294967296 + p2) / 10 = p := ⟨_, rfl⟩
  obtain ⟨r3, c3⟩ : ∃ p, (r2 * 4294967296 + p2) % 10 = p := ⟨_, rfl⟩
  obtain ⟨q3, d3⟩ : ∃ p, (r3 * 4294967296 + p3) / 10 = p := ⟨_, rfl⟩
  obtain ⟨r4, c4⟩ : ∃ p, (r3 * 4294967296 + p3) % 10 = p := ⟨_, rfl⟩
  have hv : v = 10 * (((q0 * 4294967296 + q1) * 4294967296 + q2) * 4294967296 + q3) + r4 := by omega
  have f1 : v / 10 / 18446744073709551616 = q0 * 4294967296 + q1 := by omega
  have f2 : v / 10 % 18446744073709551616 = q2 * 4294967296 + q3 := by omega
  have f3 : v % 10 = r4 := by omega
  rw [f1, f2, f3]
  exact specTenAt n0 _ _ p0 p1 p2 p3 q0 q1 q2 q3 r1 r2 r3 r4 (by omega) (by omega) (by omega) (by omega) e0 e1 e2 e3 d0 c1 d1 c2 d2 c3 d3 c4 w
end Go.Proofs.YtapdocfifgnjgaaDoor
