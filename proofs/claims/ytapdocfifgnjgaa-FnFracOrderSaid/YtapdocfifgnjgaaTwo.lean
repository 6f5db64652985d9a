
/-
  The draws of chapter 2: two numbers, three numbers.
-/
import Derived.Test.YtapdocfifgnjgaaArgsB
import Derived.OwnWalk
namespace Go.Proofs.Ytapdocfifgnjgaa
open Go.RowKit

def TwoOut (e : Ending) : Prop := ∃ a b : Int, (-9223372036854775808 ≤ a ∧ a ≤ 9223372036854775807) ∧ (-9223372036854775808 ≤ b ∧ b ≤ 9223372036854775807) ∧ e = .returned (.tuple #[.int .i64 a, .int .i64 b])

def ThreeOut (e : Ending) : Prop := ∃ a b c : Int, e = .returned (.tuple #[.int .i64 a, .int .i64 b, .int .i64 c])
end Go.Proofs.Ytapdocfifgnjgaa
