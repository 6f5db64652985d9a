
/-
  What an argument that is a struct of a sign and two halves gives the walks.
-/
import Derived.Test.YtapdocfifgnjgaaArgsB
import Derived.Deep.Strs
import Derived.ChangeSame
namespace Go.Proofs.Ytapdocfifgnjgaa
open Go.ChangeShapes Go.WideShapes Go.ChangeAt Go.RowKit Go.Deep

theorem cellsWideL : Try.prog.cellsOf 37 = 3 := by kernel_rfl
theorem cellsBool : Try.prog.cellsOf 4 = 1 := by kernel_rfl
theorem cellsU64W : Try.prog.cellsOf 24 = 1 := by kernel_rfl
set_option maxRecDepth 100000 in
theorem wide_read {H : Type} {enc : TypeId × Value → H} {W : World} {sp : Nat → Bool} {r : Reach} {b0 : Nat} {v : Value} {d : DataW H} {p : List MemPlace}
    (hval : Value.okWide Try.prog W r b0 37 v) (h : DataW.Trod enc Try.prog W 0 sp true 37 v d p) :
    ∃ (n : Bool) (x y : Int), v = .agg #[.bool n, .int .u64 x, .int .u64 y] ∧ d = .agg [.lit (.bool n), .lit (.int .u64 x), .lit (.int .u64 y)] ∧ p = [] ∧ (Lit.int .u64 x).wf = true ∧ (Lit.int .u64 y).wf = true := by
  obtain ⟨cs, rfl, hsz⟩ := okWide_struct Try.underlying37 hval
  rw [cellsWideL] at hsz
  obtain ⟨l⟩ := cs
  match l, hsz with
  | [c0, c1, c2], _ =>
    obtain ⟨fuel, hf⟩ := h
    obtain ⟨y0, y1, y2, m, hx, _, hy0, hy1, hy2⟩ := trod_struct3 Try.underlying37 hf
    obtain ⟨a, e0, rfl⟩ := DataW.trod_bool Try.underlying4 hy0
    obtain ⟨b, e1, rfl, wb⟩ := DataW.trod_int Try.underlying24 hy1
    obtain ⟨c, e2, rfl, wc⟩ := DataW.trod_int Try.underlying24 hy2
    simp [Value.cells, cellsBool, cellsU64W] at e0 e1 e2
    subst e0 e1 e2
    simp only [Prod.mk.injEq] at hx
    obtain ⟨rfl, rfl⟩ := hx
    exact ⟨a, b, c, rfl, rfl, rfl, wb, wc⟩

set_option maxRecDepth 100000 in
theorem wide_shut {H : Type} {enc : TypeId × Value → H} {W : World} {sp : Nat → Bool} {n : Bool} {x y : Int} (wx : (Lit.int .u64 x).wf = true) (wy : (Lit.int .u64 y).wf = true) :
    DataW.Trod enc Try.prog W 0 sp true 37 (.agg #[.bool n, .int .u64 x, .int .u64 y]) (.agg [.lit (.bool n), .lit (.int .u64 x), .lit (.int .u64 y)]) [] := ⟨2, by
  have f0 : DataW.trod enc Try.prog W 0 sp true 1 4 [.bool n] = some (.lit (.bool n), []) := by simp [DataW.trod, Try.underlying4]
  have f1 : DataW.trod enc Try.prog W 0 sp true 1 24 [.int .u64 x] = some (.lit (.int .u64 x), []) := by simp [DataW.trod, Try.underlying24, wx]
  have f2 : DataW.trod enc Try.prog W 0 sp true 1 24 [.int .u64 y] = some (.lit (.int .u64 y), []) := by simp [DataW.trod, Try.underlying24, wy]
  have := trod_struct3_mk (enc := enc) (w := W) (base := 0) (spare := sp) (held := true) (n := 1) (cs := [.bool n, .int .u64 x, .int .u64 y]) Try.underlying37 (by simp [cellsWideL]) (by simpa [cellsBool] using f0) (by simpa [cellsU64W] using f1) (by simpa [cellsU64W] using f2)
  simpa [Value.cells] using this⟩
end Go.Proofs.Ytapdocfifgnjgaa
