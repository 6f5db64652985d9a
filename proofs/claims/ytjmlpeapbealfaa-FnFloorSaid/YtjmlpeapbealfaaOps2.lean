
/-
  Chapter 2: what its functions answer, the program's and the reference's alike.
-/
import Derived.Test.YtjmlpeapbealfaaChk
namespace Go.Proofs.Ytjmlpeapbealfaa
open Go.RowKit

/-- What a division rounded down ends in. -/
def floorE (a b : Int) : Ending := if b = 0 then .returned (.tuple #[.int .i64 0, .bool false]) else fit (floorV a b)
set_option maxRecDepth 100000 in
theorem implFloorDiv (a b : Int) (a0 : -9223372036854775808 ≤ a) (a1 : a ≤ 9223372036854775807) (b0 : -9223372036854775808 ≤ b) (b1 : b ≤ 9223372036854775807) (w : World) :
    Calls Try.prog 14 #[.int .i64 a, .int .i64 b] w fun e w' => e = floorE a b ∧ Below w.heap.size w w' := by
  by_cases hb : b = 0
  · subst hb
    go_enter Try.func14, Try.ntmps14
    go_wp2_with fail
    refine (chkFloor0 a _).mono ?_
    rintro e w1 ⟨rfl, hB⟩
    go_wp2_with fail
    go_ret2
    exact ⟨rfl, hB⟩
  · rw [floorE, if_neg hb]
    go_enter Try.func14, Try.ntmps14
    go_wp2_with fail
    refine (chkFloor a b a0 a1 b0 b1 hb _).mono ?_
    rintro e w1 ⟨rfl, hB⟩
    by_cases hz : -9223372036854775808 ≤ floorV a b ∧ floorV a b ≤ 9223372036854775807
    · rw [fit_in hz.1 hz.2]
      go_wp2_with fail
      go_ret2
      exact ⟨fit_yes hz.1 hz.2 rfl, hB⟩
    · rw [fit_out hz]
      have hz' := Lib.hid hz
      clear hz
      go_wp2_with fail
      go_ret2
      exact ⟨fit_no hz'.out, hB⟩
theorem specFloorDiv (a b : Int) (a0 : -9223372036854775808 ≤ a) (a1 : a ≤ 9223372036854775807) (b0 : -9223372036854775808 ≤ b) (b1 : b ≤ 9223372036854775807) (w : World) :
    Calls Try.prog 15 #[.int .i64 a, .int .i64 b] w fun e w' => e = floorE a b ∧ Below w.heap.size w w' := by
  by_cases hb : b = 0
  · subst hb
    exact specFloor0 a w
  · rw [floorE, if_neg hb]
    by_cases hp : a = -9223372036854775808 ∧ b = -1
    · obtain ⟨rfl, rfl⟩ := hp
      exact specFloorPast w
    · exact specFloor a b a0 a1 b0 b1 hb hp w
/-- x brought into a range. -/
def broughtV (x l h : Int) : Int := if x < l then l else if h < x then h else x
/-- The sign of x. -/
def signV (x : Int) : Int := if 0 < x then 1 else if x < 0 then -1 else 0
end Go.Proofs.Ytjmlpeapbealfaa
