/-
  What spec.Digits answers, at every integer: the walk.
-/
import Derived.Test.YtekdlkakcclejaaDig
import Derived.Test.YtekdlkakcclejaaU
namespace Go.Proofs.Ytekdlkakcclejaa
open Go.RowKit

theorem ret_str {a b : List UInt8} (h : a = b) : Ending.returned (.string ⟨a.toArray⟩) = .returned (.string ⟨b.toArray⟩) := by rw [h]
theorem ret_add {a b : ByteArray} {c : List UInt8} (h : a ++ b = ⟨c.toArray⟩) : Ending.returned (.string (a ++ b)) = .returned (.string ⟨c.toArray⟩) := by rw [h]
theorem digInv_done {u v : Nat} {l : List UInt8} (h : DigInv u v l) (hv : v = 0) : l = Lib.decDigits u := by
  rcases h with ⟨_, _, h⟩ | ⟨h, _⟩
  · exact h
  · exact absurd hv h

end Go.Proofs.Ytekdlkakcclejaa
