/-
  What impl.Digits answers, at every integer: the decimal numeral.
-/
import Derived.Test.YtnnbhgnllbjmeaaDoorDigS
import Derived.Test.YtnnbhgnllbjmeaaDoorShItoa
import Derived.Lib.AppendIntMem
import Derived.WalkSmall
namespace Go.Proofs.YtnnbhgnllbjmeaaDoor
open Go.RowKit

theorem tabIs_below {P : Program} {B g : Nat} {w w' : World} {n : String} {k : IntKind} {zs : List Int} (h : Lib.TabIs P w n k zs) (hb : Below B w w') (hg : P.globalNamed n = some g) (hgB : g < B) : Lib.TabIs P w' n k zs :=
  var?_below hb hg hgB h

theorem implDigits (n : Int) (h0 : -9223372036854775808 ≤ n) (h1 : n ≤ 9223372036854775807) (w : World) (htab : Lib.TabIs Tryd.prog w "internal/strconv.uint64pow10" .u64 Lib.pow10Tab) :
    Calls Tryd.prog 48 #[.int .i64 n] w fun e w' => e = .returned (.string ⟨(Lib.itoa n).toArray⟩) ∧ Below w.heap.size w w' := by
  go_enter Tryd.func48, Tryd.ntmps48
  go_wp2_with (go_at_call 63; refine (Tryd.strconv_Itoa n h0 h1 _ htab).mono ?_; rintro e w1 ⟨rfl, k, os, rfl⟩)
  go_ret
  exact ⟨rfl, Lib.below_grow _ _ (Nat.le_refl _) _ _⟩
end Go.Proofs.YtnnbhgnllbjmeaaDoor
