
/-
  Chapter 2: the walk of the law over numbers brought into a range.
-/
import Derived.Test.YtiaajlgpddfahaaTwo
import Derived.Test.YtiaajlgpddfahaaLawE2
namespace Go.Proofs.Ytiaajlgpddfahaa
open Go.RowKit

set_option maxRecDepth 100000 in
set_option maxHeartbeats 1000000 in
theorem lawFnBrought (w : World) (v : Value) (n : Nat) (hb : Bytes w v n) :
    Calls Try.prog 5 #[v] w fun e w' => e = .returned (.bool true) ∧ Below w.heap.size w w' := by
  by_cases hbig : 1048576 < n
  · go_enter Try.func5, Try.ntmps5
    go_wp2_with fail
    refine (big_yes w v n hb hbig).mono ?_
    rintro e w1 ⟨rfl, rfl⟩
    go_wp2_with fail
    go_ret
    exact ⟨rfl, Below.refl _ _⟩
  · go_enter Try.func5, Try.ntmps5
    go_wp2_with fail
    refine (big_no w v n hb hbig).mono ?_
    rintro e w1 ⟨rfl, rfl⟩
    go_wp2_with fail
    refine (drawBrought w v n hb).mono ?_
    rintro e w1 ⟨⟨x, l, h, rfl⟩, hT1⟩
    clear hb hbig
    by_cases hlh : h < l
    · obtain ⟨y, hy⟩ : ∃ y, broughtV x l h = y := ⟨_, rfl⟩
      have HV := Lib.hid hy
      clear hy
      go_wp2_with fail
      refine (implBrought x l h _).mono ?_
      rintro e w2 ⟨rfl, hB2⟩
      have hT2 := bt hT1 hB2
      clear hT1 hB2
      rw [HV.out]
      go_wp2_with fail
      refine (specBrought x l h _).mono ?_
      rintro e w3 ⟨rfl, hB3⟩
      have hT3 := bt hT2 hB3
      clear hT2 hB3
      rw [HV.out]
      go_wp2_with fail
      go_ret
      exact ⟨by first | rfl | simp, hT3⟩
    · by_cases h1 : x < l
      · have HV : Hid (broughtV x l h = l) := if_pos h1
        have HW : Hid (broughtV l l h = l) := by show broughtV l l h = l; unfold broughtV; rw [if_neg (by omega), if_neg hlh]
        go_wp2_with fail
        refine (implBrought x l h _).mono ?_
        rintro e w2 ⟨rfl, hB2⟩
        have hT2 := bt hT1 hB2
        clear hT1 hB2
        rw [HV.out]
        go_wp2_with fail
        refine (specBrought x l h _).mono ?_
        rintro e w3 ⟨rfl, hB3⟩
        have hT3 := bt hT2 hB3
        clear hT2 hB3
        rw [HV.out]
        go_wp2_with fail
        refine (implBrought l l h _).mono ?_
        rintro e w4 ⟨rfl, hB4⟩
        have hT4 := bt hT3 hB4
        clear hT3 hB4
        rw [HW.out]
        go_wp2_with fail
        refine (implSignOf x _).mono ?_
        rintro e w5 ⟨rfl, hB5⟩
        have hT5 := bt hT4 hB5
        clear hT4 hB5
        go_wp2_with fail
        refine (specSignOf x _).mono ?_
        rintro e w6 ⟨rfl, hB6⟩
        have hT6 := bt hT5 hB6
        clear hT5 hB6
        go_wp2_with fail
        go_ret
        exact ⟨by first | rfl | simp, hT6⟩
      · by_cases h2 : h < x
        · have HV : Hid (broughtV x l h = h) := by show broughtV x l h = h; unfold broughtV; rw [if_neg h1, if_pos h2]
          have HW : Hid (broughtV h l h = h) := by show broughtV h l h = h; unfold broughtV; rw [if_neg hlh, if_neg (by omega)]
          go_wp2_with fail
          refine (implBrought x l h _).mono ?_
          rintro e w2 ⟨rfl, hB2⟩
          have hT2 := bt hT1 hB2
          clear hT1 hB2
          rw [HV.out]
          go_wp2_with fail
          refine (specBrought x l h _).mono ?_
          rintro e w3 ⟨rfl, hB3⟩
          have hT3 := bt hT2 hB3
          clear hT2 hB3
          rw [HV.out]
          go_wp2_with fail
          refine (implBrought h l h _).mono ?_
          rintro e w4 ⟨rfl, hB4⟩
          have hT4 := bt hT3 hB4
          clear hT3 hB4
          rw [HW.out]
          go_wp2_with fail
          refine (implSignOf x _).mono ?_
          rintro e w5 ⟨rfl, hB5⟩
          have hT5 := bt hT4 hB5
          clear hT4 hB5
          go_wp2_with fail
          refine (specSignOf x _).mono ?_
          rintro e w6 ⟨rfl, hB6⟩
          have hT6 := bt hT5 hB6
          clear hT5 hB6
          go_wp2_with fail
          go_ret
          exact ⟨by first | rfl | simp, hT6⟩
        · have HV : Hid (broughtV x l h = x) := by show broughtV x l h = x; unfold broughtV; rw [if_neg h1, if_neg h2]
          have HW := HV
          go_wp2_with fail
          refine (implBrought x l h _).mono ?_
          rintro e w2 ⟨rfl, hB2⟩
          have hT2 := bt hT1 hB2
          clear hT1 hB2
          rw [HV.out]
          go_wp2_with fail
          refine (specBrought x l h _).mono ?_
          rintro e w3 ⟨rfl, hB3⟩
          have hT3 := bt hT2 hB3
          clear hT2 hB3
          rw [HV.out]
          go_wp2_with fail
          refine (implBrought x l h _).mono ?_
          rintro e w4 ⟨rfl, hB4⟩
          have hT4 := bt hT3 hB4
          clear hT3 hB4
          rw [HW.out]
          go_wp2_with fail
          refine (implSignOf x _).mono ?_
          rintro e w5 ⟨rfl, hB5⟩
          have hT5 := bt hT4 hB5
          clear hT4 hB5
          go_wp2_with fail
          refine (specSignOf x _).mono ?_
          rintro e w6 ⟨rfl, hB6⟩
          have hT6 := bt hT5 hB6
          clear hT5 hB6
          go_wp2_with fail
          go_ret
          exact ⟨by first | rfl | simp, hT6⟩
end Go.Proofs.Ytiaajlgpddfahaa
