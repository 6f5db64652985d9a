/-
  Whether a text is a name, the program's way.
-/
import Derived.Test.YtekdlkakcclejaaTabH
import Derived.Laws.Runes
import Derived.Laws.RangeAny
import Derived.Lib.OthersKept
import Derived.WalkMore
import Derived.Deep.LoopGhost
namespace Go.Proofs.Ytekdlkakcclejaa
open Go.RowKit

theorem inZ_le9 {x lo hi : Int} (h : lo ≤ x) : inZ x lo hi = decide (x ≤ hi) := by simp [inZ, h]
theorem inZ_gt9 {x lo hi : Int} (h : ¬ lo ≤ x) : inZ x lo hi = false := by simp [inZ, h]
set_option maxRecDepth 100000 in
theorem inRange9 (x lo hi : Int) (w : World) :
    Calls Try.prog 33 #[.int .i64 x, .int .i64 lo, .int .i64 hi] w fun e w' => e = .returned (.bool (inZ x lo hi)) ∧ w = w' := by
  by_cases h : lo ≤ x
  · have HE := Lib.hid (inZ_le9 (hi := hi) h)
    go_enter Try.func33, Try.ntmps33
    go_wp2_with fail
    go_ret
    exact ⟨ret_bool9 HE.out.symm, rfl⟩
  · have HE := Lib.hid (inZ_gt9 (hi := hi) h)
    go_enter Try.func33, Try.ntmps33
    go_wp2_with fail
    go_ret
    exact ⟨ret_bool9 HE.out.symm, rfl⟩
/-- Whether a rune may stand in a name. -/
def lowR (x : Int) : Bool := inZ x 97 122 || inZ x 48 57
theorem lowR_high {x : Int} (h : 128 ≤ x) : lowR x = false := by
  have h1 : inZ x 97 122 = false := by rw [inZ, decide_eq_false_iff_not]; omega
  have h2 : inZ x 48 57 = false := by rw [inZ, decide_eq_false_iff_not]; omega
  rw [lowR, h1, h2]
  rfl
theorem lowB_eq (c : UInt8) : lowB c = lowR (c.toNat : Int) := rfl
end Go.Proofs.Ytekdlkakcclejaa
