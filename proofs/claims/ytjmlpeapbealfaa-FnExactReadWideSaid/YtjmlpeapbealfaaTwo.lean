
/-
  The draws of chapter 2: two numbers, three numbers.
-/
import Derived.Test.YtjmlpeapbealfaaArgsB
import Derived.OwnWalk
namespace Go.Proofs.Ytjmlpeapbealfaa
open Go.RowKit

def TwoOut (e : Ending) : Prop := ∃ a b : Int, (-9223372036854775808 ≤ a ∧ a ≤ 9223372036854775807) ∧ (-9223372036854775808 ≤ b ∧ b ≤ 9223372036854775807) ∧ e = .returned (.tuple #[.int .i64 a, .int .i64 b])

set_option maxRecDepth 100000 in
theorem l2Two (w : World) (v : Value) (n : Nat) (hb : Bytes w v n) :
    Calls Try.prog 43 #[v] w fun e w' => TwoOut e ∧ Below w.heap.size w w' := by
  go_enter Try.func43, Try.ntmps43
  go_wp2_with fail
  refine (l1New w v n hb).mono ?_
  rintro e w1 ⟨rfl, hc1, hB1⟩
  go_wp2_with fail
  refine (l1Whole w _ _ hc1).mono ?_
  rintro e w2 ⟨⟨z, z0, z1, rfl⟩, hc2⟩
  go_wp2_with fail
  refine (l1Below w _ _ 5 (by omega) (by omega) hc2).mono ?_
  rintro e w3 ⟨⟨m, hm, rfl⟩, hc3, hg3⟩
  have hm5 : m = 0 ∨ m = 1 ∨ (m : Int) ≠ 0 ∧ (m : Int) ≠ 1 := by omega
  rcases hm5 with rfl | rfl | ⟨hm0, hm1⟩
  · go_wp2_with fail
    go_ret2
    exact ⟨⟨z, _, ⟨z0, z1⟩, wrap64_bounds _, rfl⟩, cur_below hc3⟩
  · go_wp2_with fail
    go_ret2
    exact ⟨⟨z, _, ⟨z0, z1⟩, wrap64_bounds _, rfl⟩, cur_below hc3⟩
  · go_wp2_with fail
    refine (l1Whole w _ _ hc3).mono ?_
    rintro e w4 ⟨⟨y, y0, y1, rfl⟩, hc4⟩
    go_wp2_with fail
    go_ret2
    exact ⟨⟨z, y, ⟨z0, z1⟩, ⟨y0, y1⟩, rfl⟩, cur_below hc4⟩

def ThreeOut (e : Ending) : Prop := ∃ a b c : Int, e = .returned (.tuple #[.int .i64 a, .int .i64 b, .int .i64 c])
end Go.Proofs.Ytjmlpeapbealfaa
