/-
  The walk of the law on signs; the program's contract is a hypothesis.
-/
import Derived.Test.YtnnbhgnllbjmeaaLawG8
import Derived.Test.YtnnbhgnllbjmeaaCfgU
namespace Go.Proofs.Ytnnbhgnllbjmeaa
open Go.RowKit

set_option maxRecDepth 100000 in
set_option maxHeartbeats 8000000 in
theorem lawFnSigns (w : World) (v : Value) (n : Nat) (hI : ImplSign) (hb : Bytes w v n) :
    Calls Try.prog 3 #[v] w fun e w' => e = .returned (.bool true) ∧ Below w.heap.size w w' := by
  by_cases hbig : 1048576 < n
  · go_enter Try.func3, Try.ntmps3
    go_wp2_with fail
    refine (big_yes w v n hb hbig).mono ?_
    rintro e w1 ⟨rfl, rfl⟩
    go_wp2_with fail
    go_ret
    exact ⟨rfl, Below.refl _ _⟩
  · have HI := Lib.hid hI
    clear hI
    go_enter Try.func3, Try.ntmps3
    go_wp2_with fail
    refine (big_no w v n hb hbig).mono ?_
    rintro e w0 ⟨rfl, rfl⟩
    go_wp2_with fail
    refine (drawSignFor w v n hb).mono ?_
    rintro e w1 ⟨⟨C, u, f, rfl, hu, hl6, hf0, hf1⟩, hB1⟩
    obtain ⟨a, c, rfl, _, hcl⟩ := intRow_form hu
    simp only [cfgV]
    have XC := Lib.hid (alloc_blk w1 #[.int .i64 C.r, .int .i64 C.d, .int .i64 C.b, .int .i64 C.l, .int .i64 C.m, .int .i64 C.n, .int .i64 C.e, .slice a C.s.length c] 26)
    have HB := Lib.hid (bt hB1 (below_al w1 (.cells #[.int .i64 C.r, .int .i64 C.d, .int .i64 C.b, .int .i64 C.l, .int .i64 C.m, .int .i64 C.n, .int .i64 C.e, .slice a C.s.length c] 26)))
    have HU := Lib.hid (hu.below (below_al w1 (.cells #[.int .i64 C.r, .int .i64 C.d, .int .i64 C.b, .int .i64 C.l, .int .i64 C.m, .int .i64 C.n, .int .i64 C.e, .slice a C.s.length c] 26)))
    clear hb hB1 hu hcl hbig
    have p0 := cell_blk XC.out 0
    have p1 := cell_blk XC.out 1
    have p2 := cell_blk XC.out 2
    have p3 := cell_blk XC.out 3
    have p4 := cell_blk XC.out 4
    have p5 := cell_blk XC.out 5
    have p6 := cell_blk XC.out 6
    have p7 := cell_blk XC.out 7
    have pl := blk_lt XC.out
    by_cases hneg : f < 0
    · have HSG : Hid (signC C f = 0) := Lib.hid (by rw [signC, if_neg (by omega)])
      have n0 : ¬ (0 : Int) ≤ f := by omega
      have d0 : decide ((0 : Int) ≤ f) = false := decide_eq_false n0
      have d1 : decide (f < (0 : Int)) = true := decide_eq_true hneg
      go_wp2_with fail
      refine (HI.out C (.slice a C.s.length c) f _ HU.out (by omega) hf0 hf1).mono ?_
      rintro e w2 ⟨rfl, hB2⟩
      rw [HSG.out]
      replace XC := Lib.hid (blk_next XC.out hB2)
      replace HB := Lib.hid (bt HB.out hB2)
      replace HU := Lib.hid (HU.out.below hB2)
      clear hB2 HI p0 p1 p2 p3 p4 p5 p6 p7 pl
      have p0 := cell_blk XC.out 0
      have p1 := cell_blk XC.out 1
      have p2 := cell_blk XC.out 2
      have p3 := cell_blk XC.out 3
      have p4 := cell_blk XC.out 4
      have p5 := cell_blk XC.out 5
      have p6 := cell_blk XC.out 6
      have p7 := cell_blk XC.out 7
      have pl := blk_lt XC.out
      go_wp2_with fail
      refine (specSignFor C (.slice a C.s.length c) f _ HU.out).mono ?_
      rintro e w3 ⟨rfl, hB3⟩
      rw [HSG.out]
      replace XC := Lib.hid (blk_next XC.out hB3)
      replace HB := Lib.hid (bt HB.out hB3)
      replace HU := Lib.hid (HU.out.below hB3)
      clear hB3 p0 p1 p2 p3 p4 p5 p6 p7 pl
      have p0 := cell_blk XC.out 0
      have p1 := cell_blk XC.out 1
      have p2 := cell_blk XC.out 2
      have p3 := cell_blk XC.out 3
      have p4 := cell_blk XC.out 4
      have p5 := cell_blk XC.out 5
      have p6 := cell_blk XC.out 6
      have p7 := cell_blk XC.out 7
      have pl := blk_lt XC.out
      go_wp2_with fail
      go_ret
      exact ⟨rfl, HB.out⟩
    by_cases hin : f < C.s.length
    · obtain ⟨j, hj⟩ : ∃ j : Nat, f = (j : Int) := ⟨f.toNat, by omega⟩
      subst hj
      have hjl : j < C.s.length := by omega
      have HSG : Hid (signC C (j : Int) = C.s[j]) := Lib.hid (by
        rw [signC, if_pos (by omega)]
        simp [List.getD, hjl])
      have n0 : (0 : Int) ≤ (j : Int) := by omega
      have d0 : decide ((0 : Int) ≤ (j : Int)) = true := decide_eq_true n0
      have d1 : decide ((j : Int) < (C.s.length : Int)) = true := decide_eq_true hin
      go_wp2_with fail
      refine (HI.out C (.slice a C.s.length c) (j : Int) _ HU.out (by omega) hf0 hf1).mono ?_
      rintro e w2 ⟨rfl, hB2⟩
      rw [HSG.out]
      replace XC := Lib.hid (blk_next XC.out hB2)
      replace HB := Lib.hid (bt HB.out hB2)
      replace HU := Lib.hid (HU.out.below hB2)
      clear hB2 HI p0 p1 p2 p3 p4 p5 p6 p7 pl
      have p0 := cell_blk XC.out 0
      have p1 := cell_blk XC.out 1
      have p2 := cell_blk XC.out 2
      have p3 := cell_blk XC.out 3
      have p4 := cell_blk XC.out 4
      have p5 := cell_blk XC.out 5
      have p6 := cell_blk XC.out 6
      have p7 := cell_blk XC.out 7
      have pl := blk_lt XC.out
      go_wp2_with fail
      refine (specSignFor C (.slice a C.s.length c) (j : Int) _ HU.out).mono ?_
      rintro e w3 ⟨rfl, hB3⟩
      rw [HSG.out]
      replace XC := Lib.hid (blk_next XC.out hB3)
      replace HB := Lib.hid (bt HB.out hB3)
      replace HU := Lib.hid (HU.out.below hB3)
      clear hB3 p0 p1 p2 p3 p4 p5 p6 p7 pl
      have p0 := cell_blk XC.out 0
      have p1 := cell_blk XC.out 1
      have p2 := cell_blk XC.out 2
      have p3 := cell_blk XC.out 3
      have p4 := cell_blk XC.out 4
      have p5 := cell_blk XC.out 5
      have p6 := cell_blk XC.out 6
      have p7 := cell_blk XC.out 7
      have pl := blk_lt XC.out
      obtain ⟨a2, c2, he2, _, hcl⟩ := intRow_form HU.out
      injection he2 with he2 _ he3
      subst he2
      subst he3
      obtain ⟨b, off, rfl, hcj⟩ := hcl j C.s[j] (List.getElem?_eq_getElem hjl)
      clear hcl
      go_wp2_with fail
      go_ret
      exact ⟨rfl, HB.out⟩
    · have HSG : Hid (signC C f = 0) := Lib.hid (by
        rw [signC, if_pos (by omega)]
        simp [List.getD, List.getElem?_eq_none (show C.s.length ≤ f.toNat by omega)])
      have n0 : (0 : Int) ≤ f := by omega
      have d0 : decide ((0 : Int) ≤ f) = true := decide_eq_true n0
      have d1 : decide (f < (C.s.length : Int)) = false := decide_eq_false hin
      have d2 : decide (f < (0 : Int)) = false := decide_eq_false hneg
      have d3 : decide ((C.s.length : Int) ≤ f) = true := decide_eq_true (by omega)
      go_wp2_with fail
      refine (HI.out C (.slice a C.s.length c) f _ HU.out (by omega) hf0 hf1).mono ?_
      rintro e w2 ⟨rfl, hB2⟩
      rw [HSG.out]
      replace XC := Lib.hid (blk_next XC.out hB2)
      replace HB := Lib.hid (bt HB.out hB2)
      replace HU := Lib.hid (HU.out.below hB2)
      clear hB2 HI p0 p1 p2 p3 p4 p5 p6 p7 pl
      have p0 := cell_blk XC.out 0
      have p1 := cell_blk XC.out 1
      have p2 := cell_blk XC.out 2
      have p3 := cell_blk XC.out 3
      have p4 := cell_blk XC.out 4
      have p5 := cell_blk XC.out 5
      have p6 := cell_blk XC.out 6
      have p7 := cell_blk XC.out 7
      have pl := blk_lt XC.out
      go_wp2_with fail
      refine (specSignFor C (.slice a C.s.length c) f _ HU.out).mono ?_
      rintro e w3 ⟨rfl, hB3⟩
      rw [HSG.out]
      replace XC := Lib.hid (blk_next XC.out hB3)
      replace HB := Lib.hid (bt HB.out hB3)
      replace HU := Lib.hid (HU.out.below hB3)
      clear hB3 p0 p1 p2 p3 p4 p5 p6 p7 pl
      have p0 := cell_blk XC.out 0
      have p1 := cell_blk XC.out 1
      have p2 := cell_blk XC.out 2
      have p3 := cell_blk XC.out 3
      have p4 := cell_blk XC.out 4
      have p5 := cell_blk XC.out 5
      have p6 := cell_blk XC.out 6
      have p7 := cell_blk XC.out 7
      have pl := blk_lt XC.out
      go_wp2_with fail
      go_ret
      exact ⟨rfl, HB.out⟩
end Go.Proofs.Ytnnbhgnllbjmeaa
