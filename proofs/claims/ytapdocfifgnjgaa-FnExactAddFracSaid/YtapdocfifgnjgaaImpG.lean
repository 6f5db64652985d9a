
/-
  Wide numbers of the program: the order, whatever the numbers.
-/
import Derived.Test.YtapdocfifgnjgaaImpD
import Derived.Test.YtapdocfifgnjgaaImpZ
namespace Go.Proofs.Ytapdocfifgnjgaa
open Go.RowKit

theorem svt (x : Int) : sv true x = -x := by simp [sv]
theorem svf (x : Int) : sv false x = x := by simp [sv]
theorem implCompareWide (n0 : Bool) (h0 l0 : Int) (n1 : Bool) (h1 l1 : Int) (hp0 : 0 ≤ h0) (lp0 : 0 ≤ l0) (lq0 : l0 < 18446744073709551616) (hp1 : 0 ≤ h1) (lp1 : 0 ≤ l1) (lq1 : l1 < 18446744073709551616) (w : World) :
    Calls Try.prog 23 #[.agg #[.bool n0, .int .u64 h0, .int .u64 l0], .agg #[.bool n1, .int .u64 h1, .int .u64 l1]] w fun e w' => e = .returned (.int .i64 (cmpV n0 h0 l0 n1 h1 l1)) ∧ Below w.heap.size w w' := by
  have F : ∀ h l : Int, Hid (sgV false h l = false) := fun h l => Lib.hid (by simp [sgV])
  have T : ∀ h l : Int, ¬ (h = 0 ∧ l = 0) → Hid (sgV true h l = true) := fun h l k => Lib.hid (by simp [sgV]; omega)
  have Z : Hid (∀ g, sgV g 0 0 = false) := Lib.hid (fun g => by simp [sgV])
  have ready : ∀ {x : Int} {f : FuncId} {args : Array Value}, x = cmpV n0 h0 l0 n1 h1 l1 → (Calls Try.prog f args w fun e w' => e = .returned (.int .i64 x) ∧ Below w.heap.size w w') → Calls Try.prog f args w fun e w' => e = .returned (.int .i64 (cmpV n0 h0 l0 n1 h1 l1)) ∧ Below w.heap.size w w' := fun e h => e ▸ h
  by_cases z0 : h0 = 0 ∧ l0 = 0 <;> by_cases z1 : h1 = 0 ∧ l1 = 0 <;> cases n0 <;> cases n1
  · exact ready (by unfold cmpV ordV; simp only [svf]; (repeat' split) <;> omega) (implCmp_ff h0 l0 h1 l1 (F h0 l0) (F h1 l1) w)
  · obtain ⟨rfl, rfl⟩ := z1
    exact ready (by unfold cmpV ordV; simp only [svf, svt]; (repeat' split) <;> omega) (implCmp_fz h0 l0 (F h0 l0) Z w)
  · obtain ⟨rfl, rfl⟩ := z0
    exact ready (by unfold cmpV ordV; simp only [svf, svt]; (repeat' split) <;> omega) (implCmp_zf h1 l1 Z (F h1 l1) w)
  · obtain ⟨rfl, rfl⟩ := z0
    obtain ⟨rfl, rfl⟩ := z1
    exact ready (by unfold cmpV ordV; simp only [svt]; (repeat' split) <;> omega) (implCmp_zz Z Z w)
  · exact ready (by unfold cmpV ordV; simp only [svf]; (repeat' split) <;> omega) (implCmp_ff h0 l0 h1 l1 (F h0 l0) (F h1 l1) w)
  · exact ready (by unfold cmpV; simp only [svf, svt]; (repeat' split) <;> omega) (implCmp_ft h0 l0 h1 l1 (F h0 l0) (T h1 l1 z1) w)
  · obtain ⟨rfl, rfl⟩ := z0
    exact ready (by unfold cmpV ordV; simp only [svf, svt]; (repeat' split) <;> omega) (implCmp_zf h1 l1 Z (F h1 l1) w)
  · obtain ⟨rfl, rfl⟩ := z0
    exact ready (by unfold cmpV; simp only [svt]; (repeat' split) <;> omega) (implCmp_zt h1 l1 Z (T h1 l1 z1) w)
  · exact ready (by unfold cmpV ordV; simp only [svf]; (repeat' split) <;> omega) (implCmp_ff h0 l0 h1 l1 (F h0 l0) (F h1 l1) w)
  · obtain ⟨rfl, rfl⟩ := z1
    exact ready (by unfold cmpV ordV; simp only [svf, svt]; (repeat' split) <;> omega) (implCmp_fz h0 l0 (F h0 l0) Z w)
  · exact ready (by unfold cmpV; simp only [svf, svt]; (repeat' split) <;> omega) (implCmp_tf h0 l0 h1 l1 (T h0 l0 z0) (F h1 l1) w)
  · obtain ⟨rfl, rfl⟩ := z1
    exact ready (by unfold cmpV; simp only [svt]; (repeat' split) <;> omega) (implCmp_tz h0 l0 (T h0 l0 z0) Z w)
  · exact ready (by unfold cmpV ordV; simp only [svf]; (repeat' split) <;> omega) (implCmp_ff h0 l0 h1 l1 (F h0 l0) (F h1 l1) w)
  · exact ready (by unfold cmpV; simp only [svf, svt]; (repeat' split) <;> omega) (implCmp_ft h0 l0 h1 l1 (F h0 l0) (T h1 l1 z1) w)
  · exact ready (by unfold cmpV; simp only [svf, svt]; (repeat' split) <;> omega) (implCmp_tf h0 l0 h1 l1 (T h0 l0 z0) (F h1 l1) w)
  · exact ready (by unfold cmpV ordV; simp only [svt]; (repeat' split) <;> omega) (implCmp_tt h0 l0 h1 l1 (T h0 l0 z0) (T h1 l1 z1) w)
end Go.Proofs.Ytapdocfifgnjgaa
