
/-
  Chapter 3: the remaining draws, and the laws' own ways from and to wide numbers.
-/
import Derived.Test.YtapdocfifgnjgaaWideD
namespace Go.Proofs.Ytapdocfifgnjgaa
open Go.RowKit

set_option maxRecDepth 100000 in
set_option maxHeartbeats 1000000 in
theorem toWide (n0 : Bool) (h0 l0 : Int) (w : World) :
    Calls Try.prog 31 #[.agg #[.bool n0, .int .u64 h0, .int .u64 l0]] w fun e w' => e = .returned (.agg #[.bool n0, .int .u64 h0, .int .u64 l0]) ∧ Below w.heap.size w w' := by
  go_enter Try.func31, Try.ntmps31
  go_wp2_with fail
  (try simp only [Exit.inBlock, Exit.then])
  refine bodyPost_ret (v := .agg #[.bool n0, .int .u64 h0, .int .u64 l0]) ?_ rfl ⟨rfl, ?_⟩
  · rw [results_cell rfl]
    go_simp
  · repeat' (first | assumption | exact Below.refl _ _ | refine Below.alloc ?_ (by simp <;> omega) _ | refine Below.setCell ?_ (by simp <;> omega) _)
set_option maxRecDepth 100000 in
set_option maxHeartbeats 1000000 in
theorem eqWide_same (n0 : Bool) (h0 l0 : Int) (w : World) :
    Calls Try.prog 34 #[.agg #[.bool n0, .int .u64 h0, .int .u64 l0], .agg #[.bool n0, .int .u64 h0, .int .u64 l0]] w fun e w' => e = .returned (.bool true) ∧ Below w.heap.size w w' := by
  go_enter Try.func34, Try.ntmps34
  go_wp2_with fail
  go_ret
  exact ⟨rfl, by repeat' (first | assumption | exact Below.refl _ _ | refine Below.alloc ?_ (by simp <;> omega) _ | refine Below.setCell ?_ (by simp <;> omega) _)⟩
def ScaleOut (e : Ending) : Prop := ∃ (n : Bool) (h l k : Int), (0 ≤ h ∧ h < 18446744073709551616) ∧ (0 ≤ l ∧ l < 18446744073709551616) ∧ (-9223372036854775808 ≤ k ∧ k ≤ 9223372036854775807) ∧ e = .returned (.tuple #[.agg #[.bool n, .int .u64 h, .int .u64 l], .int .i64 k])
end Go.Proofs.Ytapdocfifgnjgaa
