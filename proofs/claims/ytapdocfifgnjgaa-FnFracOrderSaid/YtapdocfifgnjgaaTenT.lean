
/-
  A wide number times ten and a digit: the reference's way.
-/
import Derived.Test.YtapdocfifgnjgaaTextS
import Derived.Test.YtapdocfifgnjgaaWideK
namespace Go.Proofs.Ytapdocfifgnjgaa
open Go.RowKit

/-- What ten times a number and a digit ends in. -/
noncomputable def tenE (n : Bool) (h l d : Int) : Ending :=
  if okV n h l = true ∧ 0 ≤ d ∧ d ≤ 9 then fitW (sv n (h * 18446744073709551616 + l) * 10 + sv n d) else .returned (.tuple #[.agg #[.bool false, .int .u64 0, .int .u64 0], .bool false])
theorem specIn (x lo hi : Int) (w : World) :
    Calls Try.prog 30 #[.int .i64 x, .int .i64 lo, .int .i64 hi] w fun e w' => e = .returned (.bool (decide (lo ≤ x ∧ x ≤ hi))) ∧ w' = w := by
  by_cases h0 : lo ≤ x
  · by_cases h1 : x ≤ hi
    · rw [decide_eq_true ⟨h0, h1⟩]
      go_enter Try.func30, Try.ntmps30
      go_wp2_with fail
      go_ret
      exact ⟨rfl, rfl⟩
    · rw [decide_eq_false (fun k => h1 k.2)]
      go_enter Try.func30, Try.ntmps30
      go_wp2_with fail
      go_ret
      exact ⟨rfl, rfl⟩
  · rw [decide_eq_false (fun k => h0 k.1)]
    go_enter Try.func30, Try.ntmps30
    go_wp2_with fail
    go_ret
    exact ⟨rfl, rfl⟩
theorem wideC_addE {x y : Int} (hx : RoomW x) (hy : RoomW y) {n m : Bool} {h l k j : Int} (e : wideC x = .agg #[.bool n, .int .u64 h, .int .u64 l]) (f : wideC y = .agg #[.bool m, .int .u64 k, .int .u64 j]) : addE n h l m k j = fitW (x + y) := by
  simp only [wideC, Value.agg.injEq, Array.mk.injEq, List.cons.injEq, Value.bool.injEq, Value.int.injEq, and_true, true_and] at e f
  obtain ⟨e0, e1, e2⟩ := e
  obtain ⟨f0, f1, f2⟩ := f
  rw [addE, ← e0, ← e1, ← e2, ← f0, ← f1, ← f2, if_pos ⟨wideC_ok hx, wideC_ok hy⟩, wideC_sv, wideC_sv]
theorem wideC_bounds {a : Int} {n : Bool} {h l : Int} (e : wideC a = .agg #[.bool n, .int .u64 h, .int .u64 l]) : 0 ≤ h ∧ 0 ≤ l ∧ l < 18446744073709551616 ∧ (RoomW a → h < 18446744073709551616) := by
  simp only [wideC, Value.agg.injEq, Array.mk.injEq, List.cons.injEq, Value.bool.injEq, Value.int.injEq, and_true, true_and] at e
  obtain ⟨_, e1, e2⟩ := e
  unfold RoomW
  omega
end Go.Proofs.Ytapdocfifgnjgaa
