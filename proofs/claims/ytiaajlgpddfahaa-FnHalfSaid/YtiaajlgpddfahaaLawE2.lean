
/-
  Chapter 2: the walks of the laws that compare the program's answers with the reference's.
-/
import Derived.Test.YtiaajlgpddfahaaOps2
namespace Go.Proofs.Ytiaajlgpddfahaa
open Go.RowKit

theorem bt2 {a b c : World} (h : Below a.heap.size a b) (k : Below b.heap.size b c) : Below a.heap.size a c := h.trans (k.mono h.size)

theorem pairAddInt (a b : Int) : ∃ (x : Int) (k : Bool), fit (a + b) = .returned (.tuple #[.int .i64 x, .bool k]) := by
  skip
  unfold fit
  split
  · exact ⟨_, _, rfl⟩
  · exact ⟨_, _, rfl⟩
set_option maxRecDepth 100000 in
theorem lawExAddInt (a b : Int) (a0 : -9223372036854775808 ≤ a) (a1 : a ≤ 9223372036854775807) (b0 : -9223372036854775808 ≤ b) (b1 : b ≤ 9223372036854775807) (w : World) :
    Calls Try.prog 6 #[.int .i64 a, .int .i64 b] w fun e w' => e = .returned (.bool true) ∧ Below w.heap.size w w' := by
  obtain ⟨x, k, hx⟩ := pairAddInt a b
  go_enter Try.func6, Try.ntmps6
  go_wp2_with fail
  refine (specAddInt a b a0 a1 b0 b1 _).mono ?_
  rintro e w1 ⟨rfl, hB1⟩
  rw [hx]
  go_wp2_with fail
  refine (implAddInt a b a0 a1 b0 b1 _).mono ?_
  rintro e w2 ⟨rfl, hB2⟩
  rw [hx]
  go_wp2_with fail
  go_ret
  exact ⟨rfl, bt2 hB1 hB2⟩
theorem pairSubInt (a b : Int) : ∃ (x : Int) (k : Bool), fit (a - b) = .returned (.tuple #[.int .i64 x, .bool k]) := by
  skip
  unfold fit
  split
  · exact ⟨_, _, rfl⟩
  · exact ⟨_, _, rfl⟩
set_option maxRecDepth 100000 in
theorem lawExSubInt (a b : Int) (a0 : -9223372036854775808 ≤ a) (a1 : a ≤ 9223372036854775807) (b0 : -9223372036854775808 ≤ b) (b1 : b ≤ 9223372036854775807) (w : World) :
    Calls Try.prog 7 #[.int .i64 a, .int .i64 b] w fun e w' => e = .returned (.bool true) ∧ Below w.heap.size w w' := by
  obtain ⟨x, k, hx⟩ := pairSubInt a b
  go_enter Try.func7, Try.ntmps7
  go_wp2_with fail
  refine (specSubInt a b a0 a1 b0 b1 _).mono ?_
  rintro e w1 ⟨rfl, hB1⟩
  rw [hx]
  go_wp2_with fail
  refine (implSubInt a b a0 a1 b0 b1 _).mono ?_
  rintro e w2 ⟨rfl, hB2⟩
  rw [hx]
  go_wp2_with fail
  go_ret
  exact ⟨rfl, bt2 hB1 hB2⟩
theorem pairMulInt (a b : Int) : ∃ (x : Int) (k : Bool), fit (a * b) = .returned (.tuple #[.int .i64 x, .bool k]) := by
  skip
  unfold fit
  split
  · exact ⟨_, _, rfl⟩
  · exact ⟨_, _, rfl⟩
set_option maxRecDepth 100000 in
theorem lawExMulInt (a b : Int) (a0 : -9223372036854775808 ≤ a) (a1 : a ≤ 9223372036854775807) (b0 : -9223372036854775808 ≤ b) (b1 : b ≤ 9223372036854775807) (w : World) :
    Calls Try.prog 8 #[.int .i64 a, .int .i64 b] w fun e w' => e = .returned (.bool true) ∧ Below w.heap.size w w' := by
  obtain ⟨x, k, hx⟩ := pairMulInt a b
  go_enter Try.func8, Try.ntmps8
  go_wp2_with fail
  refine (specMulInt a b a0 a1 b0 b1 _).mono ?_
  rintro e w1 ⟨rfl, hB1⟩
  rw [hx]
  go_wp2_with fail
  refine (implMulInt a b a0 a1 b0 b1 _).mono ?_
  rintro e w2 ⟨rfl, hB2⟩
  rw [hx]
  go_wp2_with fail
  go_ret
  exact ⟨rfl, bt2 hB1 hB2⟩
theorem pairFloorDiv (a b : Int) : ∃ (x : Int) (k : Bool), floorE a b = .returned (.tuple #[.int .i64 x, .bool k]) := by
  unfold floorE; split; exact ⟨_, _, rfl⟩
  unfold fit
  split
  · exact ⟨_, _, rfl⟩
  · exact ⟨_, _, rfl⟩
set_option maxRecDepth 100000 in
theorem lawExFloorDiv (a b : Int) (a0 : -9223372036854775808 ≤ a) (a1 : a ≤ 9223372036854775807) (b0 : -9223372036854775808 ≤ b) (b1 : b ≤ 9223372036854775807) (w : World) :
    Calls Try.prog 9 #[.int .i64 a, .int .i64 b] w fun e w' => e = .returned (.bool true) ∧ Below w.heap.size w w' := by
  obtain ⟨x, k, hx⟩ := pairFloorDiv a b
  go_enter Try.func9, Try.ntmps9
  go_wp2_with fail
  refine (specFloorDiv a b a0 a1 b0 b1 _).mono ?_
  rintro e w1 ⟨rfl, hB1⟩
  rw [hx]
  go_wp2_with fail
  refine (implFloorDiv a b a0 a1 b0 b1 _).mono ?_
  rintro e w2 ⟨rfl, hB2⟩
  rw [hx]
  go_wp2_with fail
  go_ret
  exact ⟨rfl, bt2 hB1 hB2⟩
set_option maxRecDepth 100000 in
theorem lawExHalfSum (a b : Int) (a0 : -9223372036854775808 ≤ a) (a1 : a ≤ 9223372036854775807) (b0 : -9223372036854775808 ≤ b) (b1 : b ≤ 9223372036854775807) (w : World) :
    Calls Try.prog 12 #[.int .i64 a, .int .i64 b] w fun e w' => e = .returned (.bool true) ∧ Below w.heap.size w w' := by
  go_enter Try.func12, Try.ntmps12
  go_wp2_with fail
  refine (specHalfSum a b a0 a1 b0 b1 _).mono ?_
  rintro e w1 ⟨rfl, hB1⟩
  go_wp2_with fail
  refine (implHalfSum a b a0 a1 b0 b1 _).mono ?_
  rintro e w2 ⟨rfl, hB2⟩
  go_wp2_with fail
  go_ret
  exact ⟨rfl, bt2 hB1 hB2⟩
set_option maxRecDepth 100000 in
theorem lawExBrought (x l h : Int) (w : World) :
    Calls Try.prog 10 #[.int .i64 x, .int .i64 l, .int .i64 h] w fun e w' => e = .returned (.bool true) ∧ Below w.heap.size w w' := by
  go_enter Try.func10, Try.ntmps10
  go_wp2_with fail
  refine (specBrought x l h _).mono ?_
  rintro e w1 ⟨rfl, hB1⟩
  go_wp2_with fail
  refine (implBrought x l h _).mono ?_
  rintro e w2 ⟨rfl, hB2⟩
  go_wp2_with fail
  go_ret
  exact ⟨rfl, bt2 hB1 hB2⟩
set_option maxRecDepth 100000 in
theorem lawExSignOf (x : Int) (w : World) :
    Calls Try.prog 11 #[.int .i64 x] w fun e w' => e = .returned (.bool true) ∧ Below w.heap.size w w' := by
  go_enter Try.func11, Try.ntmps11
  go_wp2_with fail
  refine (specSignOf x _).mono ?_
  rintro e w1 ⟨rfl, hB1⟩
  go_wp2_with fail
  refine (implSignOf x _).mono ?_
  rintro e w2 ⟨rfl, hB2⟩
  go_wp2_with fail
  go_ret
  exact ⟨rfl, bt2 hB1 hB2⟩
end Go.Proofs.Ytiaajlgpddfahaa
