/-
  What the reference says of a name.
-/
import Derived.Test.YtekdlkakcclejaaU
import Derived.Test.YtekdlkakcclejaaCur
import Derived.Test.YtekdlkakcclejaaCfgM
import Derived.WalkKit
import Derived.ProofKit
import Derived.Outline
namespace Go.Proofs.Ytekdlkakcclejaa
open Go.RowKit

theorem ret_bool9 {a b : Bool} (h : a = b) : Ending.returned (.bool a) = .returned (.bool b) := by rw [h]
/-- Whether a byte may stand in a name. -/
def lowB (c : UInt8) : Bool := inZ (c.toNat : Int) 97 122 || inZ (c.toNat : Int) 48 57
/-- Whether a text is a name. -/
def nameB (l : List UInt8) : Bool := inZ (l.length : Int) 1 12 && decide (97 ≤ (l.getD 0 0).toNat) && l.all lowB
theorem all_take_succ {l : List UInt8} {k : Nat} {p : UInt8 → Bool} (hk : k < l.length) : (l.take (k + 1)).all p = ((l.take k).all p && p l[k]) := by
  rw [List.take_add_one, List.getElem?_eq_getElem hk, List.all_append]
  simp
theorem all_not {l : List UInt8} {k : Nat} {p : UInt8 → Bool} (hk : k < l.length) (h : p l[k] = false) : l.all p = false := by
  rw [List.all_eq_false]
  exact ⟨l[k], List.getElem_mem hk, by rw [h]; simp⟩

set_option maxRecDepth 100000 in
theorem specIn9 (x lo hi : Int) (w : World) :
    Calls Try.prog 34 #[.int .i64 x, .int .i64 lo, .int .i64 hi] w fun e w' => e = .returned (.bool (inZ x lo hi)) ∧ w = w' := by
  by_cases h1 : lo ≤ x
  · by_cases h2 : x ≤ hi
    · have e : inZ x lo hi = true := inZ_iff.2 ⟨h1, h2⟩
      rw [e]
      go_enter Try.func34, Try.ntmps34
      go_wp2_with fail
      go_ret
      exact ⟨rfl, rfl⟩
    · have e : inZ x lo hi = false := by rw [inZ, decide_eq_false_iff_not]; exact fun h => h2 h.2
      rw [e]
      go_enter Try.func34, Try.ntmps34
      go_wp2_with fail
      go_ret
      exact ⟨rfl, rfl⟩
  · have e : inZ x lo hi = false := by rw [inZ, decide_eq_false_iff_not]; exact fun h => h1 h.1
    rw [e]
    go_enter Try.func34, Try.ntmps34
    go_wp2_with fail
    go_ret
    exact ⟨rfl, rfl⟩

end Go.Proofs.Ytekdlkakcclejaa
