/-
  A text that is turned a little, as the draws do it.
-/
import Derived.Test.YticeagjonfifbaaDrawW
import Derived.Test.YticeagjonfifbaaBas
import Derived.Deep.RegionHeld3
import Derived.Deep.RegionWith
namespace Go.Proofs.Yticeagjonfifbaa
open Go.RowKit

theorem Cur.drew {W w : World} {p : Nat} (h : Cur W w p) : Cur W w.drew p := ⟨h.1, h.2.1.drew, h.2.2⟩
theorem Cur.drewN {W w : World} {p : Nat} (h : Cur W w p) (n : Nat) : Cur W (w.drewN n) p := ⟨h.1, ⟨h.2.1.os, h.2.1.tape, h.2.1.output, h.2.1.size, h.2.1.block⟩, h.2.2⟩
theorem grownBy_drew {a w : World} {r : Option Nat} (h : a.grownBy w r) : a.grownBy w.drew r := ⟨h.os, h.tape, h.output, h.size, h.block⟩
theorem strOut_sub {s t : ByteArray} {M : Nat} (h : t.size ≤ s.size) (hM : s.size ≤ M) : StrOut M (.returned (.string t)) := ⟨t, by omega, rfl⟩

theorem Cur.next {W w w' : World} {p : Nat} (h : Cur W w p) (hB : Below w.heap.size w w') : Cur W w' p := by
  obtain ⟨h1, h2, v, n, i, x, hb, hi, hx0, hx1, hc⟩ := h
  exact ⟨h1, h2.trans (hB.mono h2.size), v, n, i, x, hb, hi, hx0, hx1, (hB.block _ (blk_lt hc)).trans hc⟩
end Go.Proofs.Yticeagjonfifbaa
