
/-
  The four digits of a magnitude, and their tenth: the program's way.
-/
import Derived.Test.YtapdocfifgnjgaaDoorPk4
import Derived.Test.YtapdocfifgnjgaaDoorPk6
import Derived.Deep.RegionHeld3
namespace Go.Proofs.YtapdocfifgnjgaaDoor
open Go.RowKit

/-- Four digits of 32 bits, the first the greatest. -/
def digC (p0 p1 p2 p3 : Int) : Value := .agg #[.int .u32 p0, .int .u32 p1, .int .u32 p2, .int .u32 p3]
theorem u64_or32 (r p : Int) (r0 : 0 ≤ r) (r1 : r < 4294967296) (p0 : 0 ≤ p) (p1 : p < 4294967296) : bits .or .u64 (r * 4294967296) p = r * 4294967296 + p := by
  obtain ⟨a, rfl⟩ := Int.eq_ofNat_of_zero_le r0
  obtain ⟨b, rfl⟩ := Int.eq_ofNat_of_zero_le p0
  have e1 : (BitVec.ofInt 64 ((a : Int) * 4294967296)).toNat = 2 ^ 32 * a := by
    rw [BitVec.toNat_ofInt]
    omega
  have e2 : (BitVec.ofInt 64 (b : Int)).toNat = b := by
    rw [BitVec.toNat_ofInt]
    omega
  have hb : b < 2 ^ 32 := by omega
  show IntKind.u64.wrap ((BitVec.ofInt 64 ((a : Int) * 4294967296) ||| BitVec.ofInt 64 (b : Int)).toNat : Nat) = _
  rw [BitVec.toNat_or, e1, e2, ← Nat.two_pow_add_eq_or_of_lt hb a, IntKind.wrap_u64]
  omega
theorem u64_or0 (p : Int) (p0 : 0 ≤ p) (p1 : p < 4294967296) : bits .or .u64 0 p = p := by
  have h := u64_or32 0 p (by omega) (by omega) p0 p1
  simpa using h
theorem idx0 (a b c d : Value) (w : World) : (Instr.index 91 (.agg #[a, b, c, d]) (.int .i64 0)).run Tryd.prog w = .ok a w := by
  simp [Instr.index, asIntOf, run_underlying Tryd.underlying91, go_sem]
theorem idx1 (a b c d : Value) (w : World) : (Instr.index 91 (.agg #[a, b, c, d]) (.int .i64 1)).run Tryd.prog w = .ok b w := by
  simp [Instr.index, asIntOf, run_underlying Tryd.underlying91, go_sem]
theorem idx2 (a b c d : Value) (w : World) : (Instr.index 91 (.agg #[a, b, c, d]) (.int .i64 2)).run Tryd.prog w = .ok c w := by
  simp [Instr.index, asIntOf, run_underlying Tryd.underlying91, go_sem]
theorem idx3 (a b c d : Value) (w : World) : (Instr.index 91 (.agg #[a, b, c, d]) (.int .i64 3)).run Tryd.prog w = .ok d w := by
  simp [Instr.index, asIntOf, run_underlying Tryd.underlying91, go_sem]
set_option maxRecDepth 100000 in
set_option maxHeartbeats 1000000 in
theorem implDigitsAt (n0 : Bool) (h0 l0 p0 p1 p2 p3 : Int) (hp0 : 0 ≤ h0) (hq0 : h0 < 18446744073709551616) (lp0 : 0 ≤ l0) (lq0 : l0 < 18446744073709551616)
    (e0 : h0 / 4294967296 = p0) (e1 : h0 % 4294967296 = p1) (e2 : l0 / 4294967296 = p2) (e3 : l0 % 4294967296 = p3) (w : World) :
    Calls Tryd.prog 63 #[.agg #[.bool n0, .int .u64 h0, .int .u64 l0]] w fun e w' => e = .returned (.agg #[.int .u32 p0, .int .u32 p1, .int .u32 p2, .int .u32 p3]) ∧ Below w.heap.size w w' := by
  go_enter Tryd.func63, Tryd.ntmps63
  go_wp2_with fail
  (try simp only [Exit.inBlock, Exit.then])
  refine bodyPost_ret (v := .agg #[.int .u32 p0, .int .u32 p1, .int .u32 p2, .int .u32 p3]) ?_ rfl ⟨rfl, ?_⟩
  · rw [results_cell rfl]
    go_simp
  · repeat' (first | exact Below.refl _ _ | refine Below.setCell ?_ (by simp <;> omega) _ | refine Below.alloc ?_ (by simp <;> omega) _)
set_option maxRecDepth 100000 in
set_option maxHeartbeats 1000000 in
theorem implTenthAt (p0 p1 p2 p3 q0 q1 q2 q3 r1 r2 r3 r4 : Int) (p0a : 0 ≤ p0) (p0b : p0 < 4294967296) (p1a : 0 ≤ p1) (p1b : p1 < 4294967296) (p2a : 0 ≤ p2) (p2b : p2 < 4294967296) (p3a : 0 ≤ p3) (p3b : p3 < 4294967296)
    (d0 : p0 / 10 = q0) (c1 : p0 % 10 = r1) (d1 : (r1 * 4294967296 + p1) / 10 = q1) (c2 : (r1 * 4294967296 + p1) % 10 = r2) (d2 : (r2 * 4294967296 + p2) / 10 = q2) (c3 : (r2 * 4294967296 + p2) % 10 = r3) (d3 : (r3 * 4294967296 + p3) / 10 = q3) (c4 : (r3 * 4294967296 + p3) % 10 = r4) (w : World) :
    Calls Tryd.prog 62 #[.agg #[.int .u32 p0, .int .u32 p1, .int .u32 p2, .int .u32 p3]] w fun e w' => e = .returned (.tuple #[.agg #[.int .u32 q0, .int .u32 q1, .int .u32 q2, .int .u32 q3], .int .u8 (48 + r4)]) ∧ Below w.heap.size w w' := by
  have s1 : 0 ≤ r1 ∧ r1 < 10 := by omega
  have s2 : 0 ≤ r2 ∧ r2 < 10 := by omega
  have s3 : 0 ≤ r3 ∧ r3 < 10 := by omega
  have s4 : 0 ≤ r4 ∧ r4 < 10 := by omega
  have t0 : 0 ≤ q0 ∧ q0 < 4294967296 := by omega
  have t1 : 0 ≤ q1 ∧ q1 < 4294967296 := by omega
  have t2 : 0 ≤ q2 ∧ q2 < 4294967296 := by omega
  have t3 : 0 ≤ q3 ∧ q3 < 4294967296 := by omega
  have k0 := u64_or0 p0 p0a p0b
  have k1 := u64_or32 r1 p1 s1.1 (by omega) p1a p1b
  have k2 := u64_or32 r2 p2 s2.1 (by omega) p2a p2b
  have k3 := u64_or32 r3 p3 s3.1 (by omega) p3a p3b
  go_enter Tryd.func62, Tryd.ntmps62
  go_wp2_with fail
  go_loopw [4, 9] (fun s i wr => ((s = .int .u64 0 ∧ i = .int .i64 0 ∧ wr.cell? ⟨w.heap.size, 0, none⟩ = some (.int .u32 p0) ∧ wr.cell? ⟨w.heap.size, 1, none⟩ = some (.int .u32 p1) ∧ wr.cell? ⟨w.heap.size, 2, none⟩ = some (.int .u32 p2) ∧ wr.cell? ⟨w.heap.size, 3, none⟩ = some (.int .u32 p3)) ∨ (s = .int .u64 r1 ∧ i = .int .i64 1 ∧ wr.cell? ⟨w.heap.size, 0, none⟩ = some (.int .u32 q0) ∧ wr.cell? ⟨w.heap.size, 1, none⟩ = some (.int .u32 p1) ∧ wr.cell? ⟨w.heap.size, 2, none⟩ = some (.int .u32 p2) ∧ wr.cell? ⟨w.heap.size, 3, none⟩ = some (.int .u32 p3)) ∨ (s = .int .u64 r2 ∧ i = .int .i64 2 ∧ wr.cell? ⟨w.heap.size, 0, none⟩ = some (.int .u32 q0) ∧ wr.cell? ⟨w.heap.size, 1, none⟩ = some (.int .u32 q1) ∧ wr.cell? ⟨w.heap.size, 2, none⟩ = some (.int .u32 p2) ∧ wr.cell? ⟨w.heap.size, 3, none⟩ = some (.int .u32 p3)) ∨ (s = .int .u64 r3 ∧ i = .int .i64 3 ∧ wr.cell? ⟨w.heap.size, 0, none⟩ = some (.int .u32 q0) ∧ wr.cell? ⟨w.heap.size, 1, none⟩ = some (.int .u32 q1) ∧ wr.cell? ⟨w.heap.size, 2, none⟩ = some (.int .u32 q2) ∧ wr.cell? ⟨w.heap.size, 3, none⟩ = some (.int .u32 p3)) ∨ (s = .int .u64 r4 ∧ i = .int .i64 4 ∧ wr.cell? ⟨w.heap.size, 0, none⟩ = some (.int .u32 q0) ∧ wr.cell? ⟨w.heap.size, 1, none⟩ = some (.int .u32 q1) ∧ wr.cell? ⟨w.heap.size, 2, none⟩ = some (.int .u32 q2) ∧ wr.cell? ⟨w.heap.size, 3, none⟩ = some (.int .u32 q3))) ∧ (∀ k, wr.frozen? ⟨w.heap.size, k, none⟩ = false) ∧ wr.cell? ⟨w.heap.size + 1, 0, none⟩ = some (.int .u32 0) ∧ wr.cell? ⟨w.heap.size + 1, 1, none⟩ = some (.int .u32 0) ∧ wr.cell? ⟨w.heap.size + 1, 2, none⟩ = some (.int .u32 0) ∧ wr.cell? ⟨w.heap.size + 1, 3, none⟩ = some (.int .u32 0) ∧ (∀ k, wr.frozen? ⟨w.heap.size + 1, k, none⟩ = false) ∧ Below w.heap.size w wr) (fun _ i _ => 4 - (intOf i).toNat)
  case atStart =>
    obtain ⟨hA, hR, hB, _⟩ := box2 (w := w) (a := #[.int .u32 p0, .int .u32 p1, .int .u32 p2, .int .u32 p3]) (b := #[.int .u32 0, .int .u32 0, .int .u32 0, .int .u32 0]) (T := 91) (U := 91) (Below.refl _ _)
    exact ⟨Or.inl ⟨rfl, rfl, cell_blk hA 0, cell_blk hA 1, cell_blk hA 2, cell_blk hA 3⟩, fun k => free_blk hA k, cell_blk hR 0, cell_blk hR 1, cell_blk hR 2, cell_blk hR 3, fun k => free_blk hR k, hB⟩
  case round =>
    obtain ⟨hc, fA, z0, z1, z2, z3, fR, hB⟩ := hrel
    have hlt : w.heap.size + 1 < wr.heap.size := World.block_lt_of_cell? wr _ z0
    rcases hc with ⟨rfl, rfl, ya0, yb0, yc0, yd0⟩ | ⟨rfl, rfl, ya1, yb1, yc1, yd1⟩ | ⟨rfl, rfl, ya2, yb2, yc2, yd2⟩ | ⟨rfl, rfl, ya3, yb3, yc3, yd3⟩ | ⟨rfl, rfl, ya4, yb4, yc4, yd4⟩
    · have j0 := fun w => idx0 (.int .u32 p0) (.int .u32 p1) (.int .u32 p2) (.int .u32 p3) w
      go_wp2_with fail
      go_roundw
      case rel => exact ⟨Or.inr (Or.inl ⟨by rw [c1], by go_num, World.cell?_setCell_same _ _ _ ya0, (World.cell?_setCell_other _ _ _ _ (fun e => by cases e)).trans yb0, (World.cell?_setCell_other _ _ _ _ (fun e => by cases e)).trans yc0, (World.cell?_setCell_other _ _ _ _ (fun e => by cases e)).trans yd0⟩), fun j => (World.frozen?_setCell _ _ _ _).trans (fA j), (World.cell?_setCell_far _ _ _ _ (by simp)).trans z0, (World.cell?_setCell_far _ _ _ _ (by simp)).trans z1, (World.cell?_setCell_far _ _ _ _ (by simp)).trans z2, (World.cell?_setCell_far _ _ _ _ (by simp)).trans z3, fun j => (World.frozen?_setCell _ _ _ _).trans (fR j), hB.setCell (by simp) _⟩
      case measure => simp [intOf]
    · have j1 := fun w => idx1 (.int .u32 p0) (.int .u32 p1) (.int .u32 p2) (.int .u32 p3) w
      go_wp2_with fail
      go_roundw
      case rel => exact ⟨Or.inr (Or.inr (Or.inl ⟨by rw [c2], by go_num, (World.cell?_setCell_other _ _ _ _ (fun e => by cases e)).trans ya1, World.cell?_setCell_same _ _ _ yb1, (World.cell?_setCell_other _ _ _ _ (fun e => by cases e)).trans yc1, (World.cell?_setCell_other _ _ _ _ (fun e => by cases e)).trans yd1⟩)), fun j => (World.frozen?_setCell _ _ _ _).trans (fA j), (World.cell?_setCell_far _ _ _ _ (by simp)).trans z0, (World.cell?_setCell_far _ _ _ _ (by simp)).trans z1, (World.cell?_setCell_far _ _ _ _ (by simp)).trans z2, (World.cell?_setCell_far _ _ _ _ (by simp)).trans z3, fun j => (World.frozen?_setCell _ _ _ _).trans (fR j), hB.setCell (by simp) _⟩
      case measure => simp [intOf]
    · have j2 := fun w => idx2 (.int .u32 p0) (.int .u32 p1) (.int .u32 p2) (.int .u32 p3) w
      go_wp2_with fail
      go_roundw
      case rel => exact ⟨Or.inr (Or.inr (Or.inr (Or.inl ⟨by rw [c3], by go_num, (World.cell?_setCell_other _ _ _ _ (fun e => by cases e)).trans ya2, (World.cell?_setCell_other _ _ _ _ (fun e => by cases e)).trans yb2, World.cell?_setCell_same _ _ _ yc2, (World.cell?_setCell_other _ _ _ _ (fun e => by cases e)).trans yd2⟩))), fun j => (World.frozen?_setCell _ _ _ _).trans (fA j), (World.cell?_setCell_far _ _ _ _ (by simp)).trans z0, (World.cell?_setCell_far _ _ _ _ (by simp)).trans z1, (World.cell?_setCell_far _ _ _ _ (by simp)).trans z2, (World.cell?_setCell_far _ _ _ _ (by simp)).trans z3, fun j => (World.frozen?_setCell _ _ _ _).trans (fR j), hB.setCell (by simp) _⟩
      case measure => simp [intOf]
    · have j3 := fun w => idx3 (.int .u32 p0) (.int .u32 p1) (.int .u32 p2) (.int .u32 p3) w
      go_wp2_with fail
      go_roundw
      case rel => exact ⟨Or.inr (Or.inr (Or.inr (Or.inr (⟨by rw [c4], by go_num, (World.cell?_setCell_other _ _ _ _ (fun e => by cases e)).trans ya3, (World.cell?_setCell_other _ _ _ _ (fun e => by cases e)).trans yb3, (World.cell?_setCell_other _ _ _ _ (fun e => by cases e)).trans yc3, World.cell?_setCell_same _ _ _ yd3⟩)))), fun j => (World.frozen?_setCell _ _ _ _).trans (fA j), (World.cell?_setCell_far _ _ _ _ (by simp)).trans z0, (World.cell?_setCell_far _ _ _ _ (by simp)).trans z1, (World.cell?_setCell_far _ _ _ _ (by simp)).trans z2, (World.cell?_setCell_far _ _ _ _ (by simp)).trans z3, fun j => (World.frozen?_setCell _ _ _ _).trans (fR j), hB.setCell (by simp) _⟩
      case measure => simp [intOf]
    · go_wp2_with fail
      (try simp only [Exit.inBlock, Exit.then])
      refine bodyPost_ret (v := .tuple #[.agg #[.int .u32 q0, .int .u32 q1, .int .u32 q2, .int .u32 q3], .int .u8 (48 + r4)]) ?_ rfl ⟨rfl, ?_⟩
      · rw [results_cell_tmp rfl]
        go_simp
      · repeat' (first | assumption | refine Below.setCell ?_ (by simp <;> omega) _)
end Go.Proofs.YtapdocfifgnjgaaDoor
