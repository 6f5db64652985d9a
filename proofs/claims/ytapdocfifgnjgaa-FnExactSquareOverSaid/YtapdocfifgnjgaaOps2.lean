
/-
  Chapter 2: what its functions answer, the program's and the reference's alike.
-/
import Derived.Test.YtapdocfifgnjgaaChk
namespace Go.Proofs.Ytapdocfifgnjgaa
open Go.RowKit

/-- What a division rounded down ends in. -/
def floorE (a b : Int) : Ending := if b = 0 then .returned (.tuple #[.int .i64 0, .bool false]) else fit (floorV a b)
/-- x brought into a range. -/
def broughtV (x l h : Int) : Int := if x < l then l else if h < x then h else x
/-- The sign of x. -/
def signV (x : Int) : Int := if 0 < x then 1 else if x < 0 then -1 else 0
end Go.Proofs.Ytapdocfifgnjgaa
