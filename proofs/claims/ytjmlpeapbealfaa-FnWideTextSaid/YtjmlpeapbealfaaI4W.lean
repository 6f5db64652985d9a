
/-
  The text of a wide number: the program's way.
-/
import Derived.Test.YtjmlpeapbealfaaI4D
import Derived.Test.YtjmlpeapbealfaaI4R
import Derived.Test.YtjmlpeapbealfaaTextS
import Derived.Test.YtjmlpeapbealfaaImpA
namespace Go.Proofs.Ytjmlpeapbealfaa
open Go.RowKit Go.Sort

set_option maxRecDepth 100000 in
set_option maxHeartbeats 1000000 in
theorem implTenth (v : Int) (v0 : 0 ≤ v) (v1 : v < 340282366920938463463374607431768211456) (p0 p1 p2 p3 q0 q1 q2 q3 : Int)
    (e0 : v / 18446744073709551616 / 4294967296 = p0) (e1 : v / 18446744073709551616 % 4294967296 = p1) (e2 : v % 18446744073709551616 / 4294967296 = p2) (e3 : v % 18446744073709551616 % 4294967296 = p3)
    (f0 : (v / 10) / 18446744073709551616 / 4294967296 = q0) (f1 : (v / 10) / 18446744073709551616 % 4294967296 = q1) (f2 : (v / 10) % 18446744073709551616 / 4294967296 = q2) (f3 : (v / 10) % 18446744073709551616 % 4294967296 = q3) (w : World) :
    Calls Try.prog 58 #[.agg #[.int .u32 p0, .int .u32 p1, .int .u32 p2, .int .u32 p3]] w fun e w' => e = .returned (.tuple #[.agg #[.int .u32 q0, .int .u32 q1, .int .u32 q2, .int .u32 q3], .int .u8 (48 + v % 10)]) ∧ Below w.heap.size w w' := by
  obtain ⟨s0, d0⟩ : ∃ p, p0 / 10 = p := ⟨_, rfl⟩
  obtain ⟨r1, c1⟩ : ∃ p, p0 % 10 = p := ⟨_, rfl⟩
  obtain ⟨s1, d1⟩ : ∃ p, (r1 * 4294967296 + p1) / 10 = p := ⟨_, rfl⟩
  obtain ⟨r2, c2⟩ : ∃ p, (r1 * 4294967296 + p1) % 10 = p := ⟨_, rfl⟩
  obtain ⟨s2, d2⟩ : ∃ p, (r2 * 4294967296 + p2) / 10 = p := ⟨_, rfl⟩
  obtain ⟨r3, c3⟩ : ∃ p, (r2 * 4294967296 + p2) % 10 = p := ⟨_, rfl⟩
  obtain ⟨s3, d3⟩ : ∃ p, (r3 * 4294967296 + p3) / 10 = p := ⟨_, rfl⟩
  obtain ⟨r4, c4⟩ : ∃ p, (r3 * 4294967296 + p3) % 10 = p := ⟨_, rfl⟩
  have b0 : 0 ≤ p0 ∧ p0 < 4294967296 := by omega
  have b1 : 0 ≤ p1 ∧ p1 < 4294967296 := by omega
  have b2 : 0 ≤ p2 ∧ p2 < 4294967296 := by omega
  have b3 : 0 ≤ p3 ∧ p3 < 4294967296 := by omega
  have hv : v = ((p0 * 4294967296 + p1) * 4294967296 + p2) * 4294967296 + p3 := by omega
  have g0 : 0 ≤ s0 ∧ s0 < 4294967296 := by omega
  have g1 : 0 ≤ s1 ∧ s1 < 4294967296 := by omega
  have g2 : 0 ≤ s2 ∧ s2 < 4294967296 := by omega
  have g3 : 0 ≤ s3 ∧ s3 < 4294967296 := by omega
  have hw : v = 10 * (((s0 * 4294967296 + s1) * 4294967296 + s2) * 4294967296 + s3) + r4 := by omega
  have hr : 0 ≤ r4 ∧ r4 < 10 := by omega
  clear e0 e1 e2 e3
  obtain rfl : s0 = q0 := by omega
  obtain rfl : s1 = q1 := by omega
  obtain rfl : s2 = q2 := by omega
  obtain rfl : s3 = q3 := by omega
  rw [show v % 10 = r4 by omega]
  exact implTenthAt p0 p1 p2 p3 s0 s1 s2 s3 r1 r2 r3 r4 b0.1 b0.2 b1.1 b1.2 b2.1 b2.2 b3.1 b3.2 d0 c1 d1 c2 d2 c3 d3 c4 w
theorem implDigitsOf (n0 : Bool) (v : Int) (v0 : 0 ≤ v) (v1 : v < 340282366920938463463374607431768211456) (p0 p1 p2 p3 : Int)
    (e0 : v / 18446744073709551616 / 4294967296 = p0) (e1 : v / 18446744073709551616 % 4294967296 = p1) (e2 : v % 18446744073709551616 / 4294967296 = p2) (e3 : v % 18446744073709551616 % 4294967296 = p3) (w : World) :
    Calls Try.prog 59 #[.agg #[.bool n0, .int .u64 (v / 18446744073709551616), .int .u64 (v % 18446744073709551616)]] w fun e w' => e = .returned (.agg #[.int .u32 p0, .int .u32 p1, .int .u32 p2, .int .u32 p3]) ∧ Below w.heap.size w w' := by
  exact implDigitsAt n0 _ _ p0 p1 p2 p3 (by omega) (by omega) (by omega) (by omega) (by omega) (by omega) (by omega) (by omega) w
end Go.Proofs.Ytjmlpeapbealfaa
