
/-
  What an argument that is a fraction gives the walks.
-/
import Derived.Test.YtapdocfifgnjgaaArgsW
namespace Go.Proofs.Ytapdocfifgnjgaa
open Go.ChangeShapes Go.WideShapes Go.ChangeAt Go.RowKit Go.Deep

theorem cellsFracL : Try.prog.cellsOf 39 = 4 := by kernel_rfl
theorem cellsIntF : Try.prog.cellsOf 3 = 1 := by kernel_rfl
set_option maxRecDepth 100000 in
theorem frac_read {H : Type} {enc : TypeId × Value → H} {W : World} {sp : Nat → Bool} {r : Reach} {b0 : Nat} {v : Value} {d : DataW H} {p : List MemPlace}
    (hval : Value.okWide Try.prog W r b0 39 v) (h : DataW.Trod enc Try.prog W 0 sp true 39 v d p) :
    ∃ (n : Bool) (x y k : Int), v = .agg #[.bool n, .int .u64 x, .int .u64 y, .int .i64 k] ∧ d = .agg [.agg [.lit (.bool n), .lit (.int .u64 x), .lit (.int .u64 y)], .lit (.int .i64 k)] ∧ p = [] ∧ (Lit.int .u64 x).wf = true ∧ (Lit.int .u64 y).wf = true ∧ (Lit.int .i64 k).wf = true := by
  obtain ⟨cs, rfl, hsz⟩ := okWide_struct Try.underlying39 hval
  rw [cellsFracL] at hsz
  obtain ⟨l⟩ := cs
  match l, hsz with
  | [c0, c1, c2, c3], _ =>
    obtain ⟨fuel, hf⟩ := h
    obtain ⟨y0, y1, m, hx, _, hy0, hy1⟩ := trod_struct2 Try.underlying39 hf
    obtain ⟨z0, z1, z2, m2, hz, _, hz0, hz1, hz2⟩ := trod_struct3 Try.underlying37 hy0
    obtain ⟨a, e0, rfl⟩ := DataW.trod_bool Try.underlying4 hz0
    obtain ⟨b, e1, rfl, wb⟩ := DataW.trod_int Try.underlying24 hz1
    obtain ⟨c, e2, rfl, wc⟩ := DataW.trod_int Try.underlying24 hz2
    obtain ⟨k, e3, rfl, wk⟩ := DataW.trod_int Try.underlying3 hy1
    simp [Value.cells, cellsBool, cellsU64W, cellsWideL, cellsIntF] at e0 e1 e2 e3
    subst e0 e1 e2 e3
    subst hz
    simp only [Prod.mk.injEq] at hx
    obtain ⟨rfl, rfl⟩ := hx
    exact ⟨a, b, c, k, rfl, rfl, rfl, wb, wc, wk⟩

set_option maxRecDepth 100000 in
theorem frac_shut {H : Type} {enc : TypeId × Value → H} {W : World} {sp : Nat → Bool} {n : Bool} {x y k : Int} (wx : (Lit.int .u64 x).wf = true) (wy : (Lit.int .u64 y).wf = true) (wk : (Lit.int .i64 k).wf = true) :
    DataW.Trod enc Try.prog W 0 sp true 39 (.agg #[.bool n, .int .u64 x, .int .u64 y, .int .i64 k]) (.agg [.agg [.lit (.bool n), .lit (.int .u64 x), .lit (.int .u64 y)], .lit (.int .i64 k)]) [] := ⟨3, by
  have f0 : DataW.trod enc Try.prog W 0 sp true 1 4 [.bool n] = some (.lit (.bool n), []) := by simp [DataW.trod, Try.underlying4]
  have f1 : DataW.trod enc Try.prog W 0 sp true 1 24 [.int .u64 x] = some (.lit (.int .u64 x), []) := by simp [DataW.trod, Try.underlying24, wx]
  have f2 : DataW.trod enc Try.prog W 0 sp true 1 24 [.int .u64 y] = some (.lit (.int .u64 y), []) := by simp [DataW.trod, Try.underlying24, wy]
  have f3 : DataW.trod enc Try.prog W 0 sp true 2 3 [.int .i64 k] = some (.lit (.int .i64 k), []) := by simp [DataW.trod, Try.underlying3, wk]
  have g := trod_struct3_mk (enc := enc) (w := W) (base := 0) (spare := sp) (held := true) (n := 1) (cs := [.bool n, .int .u64 x, .int .u64 y]) Try.underlying37 (by simp [cellsWideL]) (by simpa [cellsBool] using f0) (by simpa [cellsU64W] using f1) (by simpa [cellsU64W] using f2)
  have := trod_struct2_mk (enc := enc) (w := W) (base := 0) (spare := sp) (held := true) (n := 2) (cs := [.bool n, .int .u64 x, .int .u64 y, .int .i64 k]) Try.underlying39 (by simp [cellsFracL]) (by simpa [cellsWideL] using g) (by simpa [cellsIntF] using f3)
  simpa [Value.cells] using this⟩
end Go.Proofs.Ytapdocfifgnjgaa
