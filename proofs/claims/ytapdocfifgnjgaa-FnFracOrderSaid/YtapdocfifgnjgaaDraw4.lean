
/-
  Draws of two wide numbers, of a text, of a wide number and a digit.
-/
import Derived.Test.YtapdocfifgnjgaaDraw3
import Derived.Test.YtapdocfifgnjgaaWideG
import Derived.Test.YtapdocfifgnjgaaBox3
import Derived.Test.YtapdocfifgnjgaaReadS
namespace Go.Proofs.Ytapdocfifgnjgaa
open Go.RowKit

/-- Two wide numbers, whatever they are. -/
def TwoWOut (e : Ending) : Prop := ∃ (n : Bool) (h l : Int) (m : Bool) (k j : Int), (0 ≤ h ∧ h < 18446744073709551616) ∧ (0 ≤ l ∧ l < 18446744073709551616) ∧ (0 ≤ k ∧ k < 18446744073709551616) ∧ (0 ≤ j ∧ j < 18446744073709551616) ∧ e = .returned (.tuple #[.agg #[.bool n, .int .u64 h, .int .u64 l], .agg #[.bool m, .int .u64 k, .int .u64 j]])
theorem results_cells2 {fn : Func} {p q : Tmp} {ty tz : TypeId} (h : fn.results = #[.cell p ty, .cell q tz]) (tmps : Array Value) (P : Program) (w : World) :
    (results fn tmps).run P w = ((asAddr (tmps.getD p undef)).run P w).andThen fun a w1 => ((loadVar ty a).run P w1).andThen fun u w2 => ((asAddr (tmps.getD q undef)).run P w2).andThen fun b w3 => ((loadVar tz b).run P w3).andThen fun v w4 => .ok (.tuple #[u, v]) w4 := by
  simp only [results, h]
  simp [Sem.run_bind, Result.andThen]

theorem Cur.drew {W w : World} {p : Nat} (h : Cur W w p) : Cur W w.drew p := by
  obtain ⟨hp, hB, v, n, i, y, hby, hi, h0, h1, hblk⟩ := h
  exact ⟨hp, hB.drew, v, n, i, y, hby, hi, h0, h1, hblk⟩
end Go.Proofs.Ytapdocfifgnjgaa
