
/-
  Chapter 2: the walks of the laws over drawn numbers: sums and ranges.
-/
import Derived.Test.YtiaajlgpddfahaaTwo
import Derived.Test.YtiaajlgpddfahaaLawE2
namespace Go.Proofs.Ytiaajlgpddfahaa
open Go.RowKit

set_option maxRecDepth 100000 in
set_option maxHeartbeats 1000000 in
theorem lawFnAdded (w : World) (v : Value) (n : Nat) (hb : Bytes w v n) :
    Calls Try.prog 3 #[v] w fun e w' => e = .returned (.bool true) ∧ Below w.heap.size w w' := by
  by_cases hbig : 1048576 < n
  · go_enter Try.func3, Try.ntmps3
    go_wp2_with fail
    refine (big_yes w v n hb hbig).mono ?_
    rintro e w1 ⟨rfl, rfl⟩
    go_wp2_with fail
    go_ret
    exact ⟨rfl, Below.refl _ _⟩
  · go_enter Try.func3, Try.ntmps3
    go_wp2_with fail
    refine (big_no w v n hb hbig).mono ?_
    rintro e w1 ⟨rfl, rfl⟩
    go_wp2_with fail
    refine (drawAddInt w v n hb).mono ?_
    rintro e w1 ⟨⟨a, b, ha, hc, rfl⟩, hT1⟩
    obtain ⟨a0, a1⟩ := ha
    obtain ⟨c0, c1⟩ := hc
    clear hb hbig
    have hback : fit (a + b - b) = .returned (.tuple #[.int .i64 a, .bool true]) := by rw [Int.add_sub_cancel]; exact fit_in a0 a1
    have hfar : fit (a - b + b) = .returned (.tuple #[.int .i64 a, .bool true]) := by rw [Int.sub_add_cancel]; exact fit_in a0 a1
    have hz1 := pairSubInt 0 b
    have hz2 := pairAddInt 0 b
    obtain ⟨x1, k1, hz1⟩ := hz1
    obtain ⟨x2, k2, hz2⟩ := hz2
    have HBK := Lib.hid hback
    have HFR := Lib.hid hfar
    have HZ1 := Lib.hid hz1
    have HZ2 := Lib.hid hz2
    clear hback hfar hz1 hz2
    by_cases hp : -9223372036854775808 ≤ a + b ∧ a + b ≤ 9223372036854775807
    · by_cases hm : -9223372036854775808 ≤ a - b ∧ a - b ≤ 9223372036854775807
      · skip
        have FP : Hid (fit (a + b) = _) := fit_in hp.1 hp.2
        have FM : Hid (fit (a - b) = _) := fit_in hm.1 hm.2
        obtain ⟨p0, p1⟩ := hp
        obtain ⟨m0, m1⟩ := hm
        go_wp2_with fail
        refine (implAddInt a b a0 a1 c0 c1 _).mono ?_
        rintro e w2 ⟨rfl, hB2⟩
        have hT2 := bt hT1 hB2
        clear hT1 hB2
        rw [FP.out]
        go_wp2_with fail
        refine (specAddInt a b a0 a1 c0 c1 _).mono ?_
        rintro e w3 ⟨rfl, hB3⟩
        have hT3 := bt hT2 hB3
        clear hT2 hB3
        rw [FP.out]
        go_wp2_with fail
        refine (implSubInt a b a0 a1 c0 c1 _).mono ?_
        rintro e w4 ⟨rfl, hB4⟩
        have hT4 := bt hT3 hB4
        clear hT3 hB4
        rw [FM.out]
        go_wp2_with fail
        refine (specSubInt a b a0 a1 c0 c1 _).mono ?_
        rintro e w5 ⟨rfl, hB5⟩
        have hT5 := bt hT4 hB5
        clear hT4 hB5
        rw [FM.out]
        go_wp2_with fail
        refine (implSubInt (a + b) b p0 p1 c0 c1 _).mono ?_
        rintro e w6 ⟨rfl, hB6⟩
        have hT6 := bt hT5 hB6
        clear hT5 hB6
        rw [HBK.out]
        go_wp2_with fail
        refine (implAddInt (a - b) b m0 m1 c0 c1 _).mono ?_
        rintro e w7 ⟨rfl, hB7⟩
        have hT7 := bt hT6 hB7
        clear hT6 hB7
        rw [HFR.out]
        go_wp2_with fail
        refine (implAddInt b a c0 c1 a0 a1 _).mono ?_
        rintro e w8 ⟨rfl, hB8⟩
        have hT8 := bt hT7 hB8
        clear hT7 hB8
        rw [Int.add_comm b a, FP.out]
        go_wp2_with fail
        go_ret
        exact ⟨by first | rfl | simp, hT8⟩
      · skip
        have FP : Hid (fit (a + b) = _) := fit_in hp.1 hp.2
        have FM : Hid (fit (a - b) = _) := fit_out hm
        obtain ⟨p0, p1⟩ := hp
        clear hm
        go_wp2_with fail
        refine (implAddInt a b a0 a1 c0 c1 _).mono ?_
        rintro e w2 ⟨rfl, hB2⟩
        have hT2 := bt hT1 hB2
        clear hT1 hB2
        rw [FP.out]
        go_wp2_with fail
        refine (specAddInt a b a0 a1 c0 c1 _).mono ?_
        rintro e w3 ⟨rfl, hB3⟩
        have hT3 := bt hT2 hB3
        clear hT2 hB3
        rw [FP.out]
        go_wp2_with fail
        refine (implSubInt a b a0 a1 c0 c1 _).mono ?_
        rintro e w4 ⟨rfl, hB4⟩
        have hT4 := bt hT3 hB4
        clear hT3 hB4
        rw [FM.out]
        go_wp2_with fail
        refine (specSubInt a b a0 a1 c0 c1 _).mono ?_
        rintro e w5 ⟨rfl, hB5⟩
        have hT5 := bt hT4 hB5
        clear hT4 hB5
        rw [FM.out]
        go_wp2_with fail
        refine (implSubInt (a + b) b p0 p1 c0 c1 _).mono ?_
        rintro e w6 ⟨rfl, hB6⟩
        have hT6 := bt hT5 hB6
        clear hT5 hB6
        rw [HBK.out]
        go_wp2_with fail
        refine (implAddInt 0 b (by omega) (by omega) c0 c1 _).mono ?_
        rintro e w7 ⟨rfl, hB7⟩
        have hT7 := bt hT6 hB7
        clear hT6 hB7
        rw [HZ2.out]
        go_wp2_with fail
        refine (implAddInt b a c0 c1 a0 a1 _).mono ?_
        rintro e w8 ⟨rfl, hB8⟩
        have hT8 := bt hT7 hB8
        clear hT7 hB8
        rw [Int.add_comm b a, FP.out]
        go_wp2_with fail
        go_ret
        exact ⟨by first | rfl | simp, hT8⟩
    · by_cases hm : -9223372036854775808 ≤ a - b ∧ a - b ≤ 9223372036854775807
      · skip
        have FP : Hid (fit (a + b) = _) := fit_out hp
        have FM : Hid (fit (a - b) = _) := fit_in hm.1 hm.2
        clear hp
        obtain ⟨m0, m1⟩ := hm
        go_wp2_with fail
        refine (implAddInt a b a0 a1 c0 c1 _).mono ?_
        rintro e w2 ⟨rfl, hB2⟩
        have hT2 := bt hT1 hB2
        clear hT1 hB2
        rw [FP.out]
        go_wp2_with fail
        refine (specAddInt a b a0 a1 c0 c1 _).mono ?_
        rintro e w3 ⟨rfl, hB3⟩
        have hT3 := bt hT2 hB3
        clear hT2 hB3
        rw [FP.out]
        go_wp2_with fail
        refine (implSubInt a b a0 a1 c0 c1 _).mono ?_
        rintro e w4 ⟨rfl, hB4⟩
        have hT4 := bt hT3 hB4
        clear hT3 hB4
        rw [FM.out]
        go_wp2_with fail
        refine (specSubInt a b a0 a1 c0 c1 _).mono ?_
        rintro e w5 ⟨rfl, hB5⟩
        have hT5 := bt hT4 hB5
        clear hT4 hB5
        rw [FM.out]
        go_wp2_with fail
        refine (implSubInt 0 b (by omega) (by omega) c0 c1 _).mono ?_
        rintro e w6 ⟨rfl, hB6⟩
        have hT6 := bt hT5 hB6
        clear hT5 hB6
        rw [HZ1.out]
        go_wp2_with fail
        refine (implAddInt (a - b) b m0 m1 c0 c1 _).mono ?_
        rintro e w7 ⟨rfl, hB7⟩
        have hT7 := bt hT6 hB7
        clear hT6 hB7
        rw [HFR.out]
        go_wp2_with fail
        refine (implAddInt b a c0 c1 a0 a1 _).mono ?_
        rintro e w8 ⟨rfl, hB8⟩
        have hT8 := bt hT7 hB8
        clear hT7 hB8
        rw [Int.add_comm b a, FP.out]
        go_wp2_with fail
        go_ret
        exact ⟨by first | rfl | simp, hT8⟩
      · skip
        have FP : Hid (fit (a + b) = _) := fit_out hp
        have FM : Hid (fit (a - b) = _) := fit_out hm
        clear hp
        clear hm
        go_wp2_with fail
        refine (implAddInt a b a0 a1 c0 c1 _).mono ?_
        rintro e w2 ⟨rfl, hB2⟩
        have hT2 := bt hT1 hB2
        clear hT1 hB2
        rw [FP.out]
        go_wp2_with fail
        refine (specAddInt a b a0 a1 c0 c1 _).mono ?_
        rintro e w3 ⟨rfl, hB3⟩
        have hT3 := bt hT2 hB3
        clear hT2 hB3
        rw [FP.out]
        go_wp2_with fail
        refine (implSubInt a b a0 a1 c0 c1 _).mono ?_
        rintro e w4 ⟨rfl, hB4⟩
        have hT4 := bt hT3 hB4
        clear hT3 hB4
        rw [FM.out]
        go_wp2_with fail
        refine (specSubInt a b a0 a1 c0 c1 _).mono ?_
        rintro e w5 ⟨rfl, hB5⟩
        have hT5 := bt hT4 hB5
        clear hT4 hB5
        rw [FM.out]
        go_wp2_with fail
        refine (implSubInt 0 b (by omega) (by omega) c0 c1 _).mono ?_
        rintro e w6 ⟨rfl, hB6⟩
        have hT6 := bt hT5 hB6
        clear hT5 hB6
        rw [HZ1.out]
        go_wp2_with fail
        refine (implAddInt 0 b (by omega) (by omega) c0 c1 _).mono ?_
        rintro e w7 ⟨rfl, hB7⟩
        have hT7 := bt hT6 hB7
        clear hT6 hB7
        rw [HZ2.out]
        go_wp2_with fail
        refine (implAddInt b a c0 c1 a0 a1 _).mono ?_
        rintro e w8 ⟨rfl, hB8⟩
        have hT8 := bt hT7 hB8
        clear hT7 hB8
        rw [Int.add_comm b a, FP.out]
        go_wp2_with fail
        go_ret
        exact ⟨by first | rfl | simp, hT8⟩
end Go.Proofs.Ytiaajlgpddfahaa
