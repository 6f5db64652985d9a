/-
  The text of a wide number: the program's way.
  A wide number times ten and a digit: the reference's way.
-/
import Derived.Test.YtapdocfifgnjgaaDoorI4D
import Derived.Test.YtapdocfifgnjgaaDoorPk2
import Derived.Test.YtapdocfifgnjgaaDoorTextS
import Derived.Test.YtapdocfifgnjgaaDoorImpA
import Derived.Test.YtapdocfifgnjgaaDoorWideK
namespace Go.Proofs.YtapdocfifgnjgaaDoor
open Go.RowKit Go.Sort

set_option maxRecDepth 100000 in
set_option maxHeartbeats 1000000 in
theorem implTenth (v : Int) (v0 : 0 ≤ v) (v1 : v < 340282366920938463463374607431768211456) (p0 p1 p2 p3 q0 q1 q2 q3 : Int)
    (e0 : v / 18446744073709551616 / 4294967296 = p0) (e1 : v / 18446744073709551616 % 4294967296 = p1) (e2 : v % 18446744073709551616 / 4294967296 = p2) (e3 : v % 18446744073709551616 % 4294967296 = p3)
    (f0 : (v / 10) / 18446744073709551616 / 4294967296 = q0) (f1 : (v / 10) / 18446744073709551616 % 4294967296 = q1) (f2 : (v / 10) % 18446744073709551616 / 4294967296 = q2) (f3 : (v / 10) % 18446744073709551616 % 4294967296 = q3) (w : World) :
    Calls Tryd.prog 62 #[.agg #[.int .u32 p0, .int .u32 p1, .int .u32 p2, .int .u32 p3]] w fun e w' => e = .returned (.tuple #[.agg #[.int .u32 q0, .int .u32 q1, .int .u32 q2, .int .u32 q3], .int .u8 (48 + v % 10)]) ∧ Below w.heap.size w w' := by
  obtain ⟨s0, d0⟩ : ∃ p, p0 / 10 = p := ⟨_, rfl⟩
  obtain ⟨r1, c1⟩ : ∃ p, p0 % 10 = p := ⟨_, rfl⟩
  obtain ⟨s1, d1⟩ : ∃ p, (r1 * 4294967296 + p1) / 10 = p := ⟨_, rfl⟩
  obtain ⟨r2, c2⟩ : ∃ p, (r1 * 4294967296 + p1) % 10 = p := ⟨_, rfl⟩
  obtain ⟨s2, d2⟩ : ∃ p, (r2 * 4294967296 + p2) / 10 = p := ⟨_, rfl⟩
  obtain ⟨r3, c3⟩ : ∃ p, (r2 * 4294967296 + p2) % 10 = p := ⟨_, rfl⟩
  obtain ⟨s3, d3⟩ : ∃ p, (r3 * 4294967296 + p3) / 10 = p := ⟨_, rfl⟩
  obtain ⟨r4, c4⟩ : ∃ p, (r3 * 4294967296 + p3) % 10 = p := ⟨_, rfl⟩
  have b0 : 0 ≤ p0 ∧ p0 < 4294967296 := by omega
  have b1 : 0 ≤ p1 ∧ p1 < 4294967296 := by omega
  have b2 : 0 ≤ p2 ∧ p2 < 4294967296 := by omega
  have b3 : 0 ≤ p3 ∧ p3 < 4294967296 := by omega
  have hv : v = ((p0 * 4294967296 + p1) * 4294967296 + p2) * 4294967296 + p3 := by omega
  have g0 : 0 ≤ s0 ∧ s0 < 4294967296 := by omega
  have g1 : 0 ≤ s1 ∧ s1 < 4294967296 := by omega
  have g2 : 0 ≤ s2 ∧ s2 < 4294967296 := by omega
  have g3 : 0 ≤ s3 ∧ s3 < 4294967296 := by omega
  have hw : v = 10 * (((s0 * 4294967296 + s1) * 4294967296 + s2) * 4294967296 + s3) + r4 := by omega
  have hr : 0 ≤ r4 ∧ r4 < 10 := by omega
  clear e0 e1 e2 e3
  obtain rfl : s0 = q0 := by omega
  obtain rfl : s1 = q1 := by omega
  obtain rfl : s2 = q2 := by omega
  obtain rfl : s3 = q3 := by omega
  rw [show v % 10 = r4 by omega]
  exact implTenthAt p0 p1 p2 p3 s0 s1 s2 s3 r1 r2 r3 r4 b0.1 b0.2 b1.1 b1.2 b2.1 b2.2 b3.1 b3.2 d0 c1 d1 c2 d2 c3 d3 c4 w
theorem implDigitsOf (n0 : Bool) (v : Int) (v0 : 0 ≤ v) (v1 : v < 340282366920938463463374607431768211456) (p0 p1 p2 p3 : Int)
    (e0 : v / 18446744073709551616 / 4294967296 = p0) (e1 : v / 18446744073709551616 % 4294967296 = p1) (e2 : v % 18446744073709551616 / 4294967296 = p2) (e3 : v % 18446744073709551616 % 4294967296 = p3) (w : World) :
    Calls Tryd.prog 63 #[.agg #[.bool n0, .int .u64 (v / 18446744073709551616), .int .u64 (v % 18446744073709551616)]] w fun e w' => e = .returned (.agg #[.int .u32 p0, .int .u32 p1, .int .u32 p2, .int .u32 p3]) ∧ Below w.heap.size w w' := by
  exact implDigitsAt n0 _ _ p0 p1 p2 p3 (by omega) (by omega) (by omega) (by omega) (by omega) (by omega) (by omega) (by omega) w
end Go.Proofs.YtapdocfifgnjgaaDoor
namespace Go.Proofs.YtapdocfifgnjgaaDoor
open Go.RowKit

/-- What ten times a number and a digit ends in. -/
noncomputable def tenE (n : Bool) (h l d : Int) : Ending :=
  if okV n h l = true ∧ 0 ≤ d ∧ d ≤ 9 then fitW (sv n (h * 18446744073709551616 + l) * 10 + sv n d) else .returned (.tuple #[.agg #[.bool false, .int .u64 0, .int .u64 0], .bool false])
theorem specIn (x lo hi : Int) (w : World) :
    Calls Tryd.prog 58 #[.int .i64 x, .int .i64 lo, .int .i64 hi] w fun e w' => e = .returned (.bool (decide (lo ≤ x ∧ x ≤ hi))) ∧ w' = w := by
  by_cases h0 : lo ≤ x
  · by_cases h1 : x ≤ hi
    · rw [decide_eq_true ⟨h0, h1⟩]
      go_enter Tryd.func58, Tryd.ntmps58
      go_wp2_with fail
      go_ret
      exact ⟨rfl, rfl⟩
    · rw [decide_eq_false (fun k => h1 k.2)]
      go_enter Tryd.func58, Tryd.ntmps58
      go_wp2_with fail
      go_ret
      exact ⟨rfl, rfl⟩
  · rw [decide_eq_false (fun k => h0 k.1)]
    go_enter Tryd.func58, Tryd.ntmps58
    go_wp2_with fail
    go_ret
    exact ⟨rfl, rfl⟩
theorem wideC_addE {x y : Int} (hx : RoomW x) (hy : RoomW y) {n m : Bool} {h l k j : Int} (e : wideC x = .agg #[.bool n, .int .u64 h, .int .u64 l]) (f : wideC y = .agg #[.bool m, .int .u64 k, .int .u64 j]) : addE n h l m k j = fitW (x + y) := by
  simp only [wideC, Value.agg.injEq, Array.mk.injEq, List.cons.injEq, Value.bool.injEq, Value.int.injEq, and_true, true_and] at e f
  obtain ⟨e0, e1, e2⟩ := e
  obtain ⟨f0, f1, f2⟩ := f
  rw [addE, ← e0, ← e1, ← e2, ← f0, ← f1, ← f2, if_pos ⟨wideC_ok hx, wideC_ok hy⟩, wideC_sv, wideC_sv]
theorem wideC_bounds {a : Int} {n : Bool} {h l : Int} (e : wideC a = .agg #[.bool n, .int .u64 h, .int .u64 l]) : 0 ≤ h ∧ 0 ≤ l ∧ l < 18446744073709551616 ∧ (RoomW a → h < 18446744073709551616) := by
  simp only [wideC, Value.agg.injEq, Array.mk.injEq, List.cons.injEq, Value.bool.injEq, Value.int.injEq, and_true, true_and] at e
  obtain ⟨_, e1, e2⟩ := e
  unfold RoomW
  omega
end Go.Proofs.YtapdocfifgnjgaaDoor
