/-
  The walk of the law on settings and their text; the program's contracts are hypotheses.
-/
import Derived.Test.YtnnbhgnllbjmeaaGreatDoorLawH8
import Derived.Test.YtnnbhgnllbjmeaaGreatDoorLawI8
import Derived.Test.YtnnbhgnllbjmeaaGreatDoorLawG8
import Derived.Test.YtnnbhgnllbjmeaaGreatDoorPk1
import Derived.Test.YtnnbhgnllbjmeaaGreatDoorLins
namespace Go.Proofs.YtnnbhgnllbjmeaaGreatDoor
open Go.RowKit

theorem textC_neM {C : Cfg} (h : okC C = true) : textC C ≠ [] := by
  obtain ⟨k, ks, hks⟩ : ∃ k ks, keysC C = k :: ks := by
    unfold keysC
    split
    · exact ⟨_, _, rfl⟩
    · exact ⟨_, _, rfl⟩
  rw [textC, if_pos h, hks, List.map_cons, linesT]
  intro e
  have := congrArg List.length e
  simp at this
set_option maxRecDepth 100000 in
set_option maxHeartbeats 16000000 in
theorem lawFnConfig (w : World) (v : Value) (n : Nat) (hT : ImplText8 w) (hR : ImplRead8 w) (hO : ImplOk) (hS : ImplSameC) (hb : Bytes w v n) :
    Calls Tryz.prog 3 #[v] w fun e w' => e = .returned (.bool true) ∧ Below w.heap.size w w' := by
  by_cases hbig : 1048576 < n
  · go_enter Tryz.func3, Tryz.ntmps3
    go_wp2_with fail
    refine (big_yes w v n hb hbig).mono ?_
    rintro e w1 ⟨rfl, rfl⟩
    go_wp2_with fail
    go_ret
    exact ⟨rfl, Below.refl _ _⟩
  · have HT := Lib.hid hT
    have HR := Lib.hid hR
    have HO := Lib.hid hO
    have HS := Lib.hid hS
    have HBY := Lib.hid hb
    clear hT hR hO hS
    go_enter Tryz.func3, Tryz.ntmps3
    go_wp2_with fail
    refine (big_no w v n hb hbig).mono ?_
    rintro e w0 ⟨rfl, rfl⟩
    go_wp2_with fail
    refine (drawConfigText w v n hb).mono ?_
    rintro e w1 ⟨⟨C, u, rfl, hu, hl6⟩, hB1⟩
    obtain ⟨ua, uc, rfl, _⟩ := intRow_form hu
    simp only [cfgV]
    have XC := Lib.hid (alloc_blk w1 #[.int .i64 C.r, .int .i64 C.d, .int .i64 C.b, .int .i64 C.l, .int .i64 C.m, .int .i64 C.n, .int .i64 C.e, .slice ua C.s.length uc] 26)
    have HB := Lib.hid (bt hB1 (below_al w1 (.cells #[.int .i64 C.r, .int .i64 C.d, .int .i64 C.b, .int .i64 C.l, .int .i64 C.m, .int .i64 C.n, .int .i64 C.e, .slice ua C.s.length uc] 26)))
    have HU := Lib.hid (hu.below (below_al w1 (.cells #[.int .i64 C.r, .int .i64 C.d, .int .i64 C.b, .int .i64 C.l, .int .i64 C.m, .int .i64 C.n, .int .i64 C.e, .slice ua C.s.length uc] 26)))
    clear hb hB1 hu hbig
    have p0 := cell_blk XC.out 0
    have p1 := cell_blk XC.out 1
    have p2 := cell_blk XC.out 2
    have p3 := cell_blk XC.out 3
    have p4 := cell_blk XC.out 4
    have p5 := cell_blk XC.out 5
    have p6 := cell_blk XC.out 6
    have p7 := cell_blk XC.out 7
    have pl := blk_lt XC.out
    go_wp2_with fail
    generalize w1.alloc (.cells #[.int .i64 C.r, .int .i64 C.d, .int .i64 C.b, .int .i64 C.l, .int .i64 C.m, .int .i64 C.n, .int .i64 C.e, .slice ua C.s.length uc] 26) = wa at XC HB HU ⊢
    clear p0 p1 p2 p3 p4 p5 p6 p7 pl
    by_cases hk : okC C = true
    · obtain ⟨S, hS⟩ : ∃ S : ByteArray, S = ⟨(textC C).toArray⟩ := ⟨_, rfl⟩
      have hSl : S.data.toList = textC C := by rw [hS]
      have hSz : S.size ≤ 600 := by rw [Lib.size_eq, hSl]; exact textC_len hk
      have hemp : S.toList.isEmpty = false := by
        rw [Lib.toList_data, hSl]
        cases hx : textC C with
        | nil => exact absurd hx (textC_neM hk)
        | cons _ _ => rfl
      have HTS := Lib.hid (fun W hB hu => HT.out W hB C (.slice ua C.s.length uc) hu (by omega))
      have HSS := Lib.hid (fun W hu => specConfigText C (.slice ua C.s.length uc) W hu)
      rw [← hS] at HTS HSS
      have HQ := Lib.hid (show readC S.data.toList = (C, 0, 0) by rw [hSl]; exact readC_text hk)
      obtain ⟨D, hD⟩ : ∃ D, C = D := ⟨_, rfl⟩
      have HDE := Lib.hid hD
      have HOK := Lib.hid hk
      clear hS hSl hD
      have hdl : D.s.length ≤ 6 := by rw [← HDE.out]; exact hl6
      refine (HTS.out wa HB.out HU.out).mono ?_
      rintro e w2 ⟨rfl, hB2⟩
      replace XC := Lib.hid (blk_next XC.out hB2)
      replace HU := Lib.hid (HU.out.below hB2)
      replace HB := Lib.hid (bt HB.out hB2)
      clear hB2 HT HTS
      have p0 := cell_blk XC.out 0
      have p1 := cell_blk XC.out 1
      have p2 := cell_blk XC.out 2
      have p3 := cell_blk XC.out 3
      have p4 := cell_blk XC.out 4
      have p5 := cell_blk XC.out 5
      have p6 := cell_blk XC.out 6
      have p7 := cell_blk XC.out 7
      have pl := blk_lt XC.out
      go_wp2_with fail
      refine (HSS.out w2 HU.out).mono ?_
      rintro e w3 ⟨rfl, hB3⟩
      replace XC := Lib.hid (blk_next XC.out hB3)
      replace HU := Lib.hid (HU.out.below hB3)
      replace HB := Lib.hid (bt HB.out hB3)
      clear hB3 HSS
      clear p0 p1 p2 p3 p4 p5 p6 p7 pl
      have p0 := cell_blk XC.out 0
      have p1 := cell_blk XC.out 1
      have p2 := cell_blk XC.out 2
      have p3 := cell_blk XC.out 3
      have p4 := cell_blk XC.out 4
      have p5 := cell_blk XC.out 5
      have p6 := cell_blk XC.out 6
      have p7 := cell_blk XC.out 7
      have pl := blk_lt XC.out
      go_wp2_with fail
      refine (HO.out C (.slice ua C.s.length uc) w3 HU.out (by omega)).mono ?_
      rintro e w4 ⟨rfl, hB4⟩
      rw [HOK.out]
      replace XC := Lib.hid (blk_next XC.out hB4)
      replace HU := Lib.hid (HU.out.below hB4)
      replace HB := Lib.hid (bt HB.out hB4)
      clear hB4 HO
      clear p0 p1 p2 p3 p4 p5 p6 p7 pl
      go_wp2_with fail
      refine (HR.out w4 HB.out S D 0 0 (by omega) (by rw [← HDE.out]; exact HQ.out)).mono ?_
      rintro e w5 ⟨⟨v5, rfl, ho5⟩, hB5⟩
      obtain ⟨a5, c5, rfl⟩ := ownsI_form ho5
      have HX := Lib.hid (intRow_of_owns ho5 (by omega))
      replace XC := Lib.hid (blk_next XC.out hB5)
      replace HU := Lib.hid (HU.out.below hB5)
      replace HB := Lib.hid (bt HB.out hB5)
      clear hB5 ho5
      go_wp2_with fail
      have hAl := bt (below_al w5 (.cells #[.int .i64 D.r, .int .i64 D.d, .int .i64 D.b, .int .i64 D.l, .int .i64 D.m, .int .i64 D.n, .int .i64 D.e, .slice a5 D.s.length c5] 26)) (below_al _ (.cells #[.int .i64 ((0 : Nat) : Int), .int .i64 ((0 : Nat) : Int), .int .i64 0] 31))
      have X5 := Lib.hid (blk_alloc (alloc_blk w5 #[.int .i64 D.r, .int .i64 D.d, .int .i64 D.b, .int .i64 D.l, .int .i64 D.m, .int .i64 D.n, .int .i64 D.e, .slice a5 D.s.length c5] 26) (.cells #[.int .i64 ((0 : Nat) : Int), .int .i64 ((0 : Nat) : Int), .int .i64 0] 31))
      have x6q := alloc_blk (w5.alloc (.cells #[.int .i64 D.r, .int .i64 D.d, .int .i64 D.b, .int .i64 D.l, .int .i64 D.m, .int .i64 D.n, .int .i64 D.e, .slice a5 D.s.length c5] 26)) #[.int .i64 ((0 : Nat) : Int), .int .i64 ((0 : Nat) : Int), .int .i64 0] 31
      simp only [size_alloc] at x6q
      have X6 := Lib.hid x6q
      replace XC := Lib.hid (blk_next XC.out hAl)
      replace HU := Lib.hid (HU.out.below hAl)
      replace HX := Lib.hid (HX.out.below hAl)
      replace HB := Lib.hid (bt HB.out hAl)
      clear x6q hAl
      generalize ((w5.alloc (.cells #[.int .i64 D.r, .int .i64 D.d, .int .i64 D.b, .int .i64 D.l, .int .i64 D.m, .int .i64 D.n, .int .i64 D.e, .slice a5 D.s.length c5] 26)).alloc (.cells #[.int .i64 ((0 : Nat) : Int), .int .i64 ((0 : Nat) : Int), .int .i64 0] 31)) = wb at X5 X6 XC HU HX HB ⊢
      refine (drawReadConfig wb v n (HBY.out.next HB.out)).mono ?_
      rintro e w6 ⟨⟨t, ht, rfl⟩, hB6⟩
      obtain ⟨E, ce, ie, hqe⟩ : ∃ E ce ie, readC t.data.toList = (E, ce, ie) := ⟨_, _, _, rfl⟩
      have hel := readC_len hqe
      have HQE := Lib.hid hqe
      have HRK := Lib.hid (fun (h0 : ce = 0) => show okC E = true by
        have h := readC_ok (l := t.data.toList)
        rw [hqe] at h
        exact h h0)
      have HSR := Lib.hid (fun W => (specReadConfig t W).mono fun e w' k => (⟨rcPost_at hqe k.1, k.2⟩ : RcAt E ce ie e w' ∧ Below W.heap.size W w'))
      clear hqe
      replace XC := Lib.hid (blk_next XC.out hB6)
      replace X5 := Lib.hid (blk_next X5.out hB6)
      replace X6 := Lib.hid (blk_next X6.out hB6)
      replace HU := Lib.hid (HU.out.below hB6)
      replace HX := Lib.hid (HX.out.below hB6)
      replace HB := Lib.hid (bt HB.out hB6)
      clear hB6
      go_wp2_with fail
      refine (HR.out w6 HB.out t E ce ie (by omega) HQE.out).mono ?_
      rintro e w7 ⟨⟨v7, rfl, ho7⟩, hB7⟩
      obtain ⟨a7, c7, rfl⟩ := ownsI_form ho7
      have HY := Lib.hid (intRow_of_owns ho7 (by omega))
      replace XC := Lib.hid (blk_next XC.out hB7)
      replace X5 := Lib.hid (blk_next X5.out hB7)
      replace X6 := Lib.hid (blk_next X6.out hB7)
      replace HU := Lib.hid (HU.out.below hB7)
      replace HX := Lib.hid (HX.out.below hB7)
      replace HB := Lib.hid (bt HB.out hB7)
      clear hB7 ho7 HR HQE
      go_wp2_with fail
      have hAl := bt (below_al w7 (.cells #[.int .i64 E.r, .int .i64 E.d, .int .i64 E.b, .int .i64 E.l, .int .i64 E.m, .int .i64 E.n, .int .i64 E.e, .slice a7 E.s.length c7] 26)) (below_al _ (.cells #[.int .i64 (ce : Int), .int .i64 (ie : Int), .int .i64 0] 31))
      have X8 := Lib.hid (blk_alloc (alloc_blk w7 #[.int .i64 E.r, .int .i64 E.d, .int .i64 E.b, .int .i64 E.l, .int .i64 E.m, .int .i64 E.n, .int .i64 E.e, .slice a7 E.s.length c7] 26) (.cells #[.int .i64 (ce : Int), .int .i64 (ie : Int), .int .i64 0] 31))
      have x9q := alloc_blk (w7.alloc (.cells #[.int .i64 E.r, .int .i64 E.d, .int .i64 E.b, .int .i64 E.l, .int .i64 E.m, .int .i64 E.n, .int .i64 E.e, .slice a7 E.s.length c7] 26)) #[.int .i64 (ce : Int), .int .i64 (ie : Int), .int .i64 0] 31
      simp only [size_alloc] at x9q
      have X9 := Lib.hid x9q
      replace XC := Lib.hid (blk_next XC.out hAl)
      replace X5 := Lib.hid (blk_next X5.out hAl)
      replace X6 := Lib.hid (blk_next X6.out hAl)
      replace HU := Lib.hid (HU.out.below hAl)
      replace HX := Lib.hid (HX.out.below hAl)
      replace HY := Lib.hid (HY.out.below hAl)
      replace HB := Lib.hid (bt HB.out hAl)
      clear x9q hAl
      generalize ((w7.alloc (.cells #[.int .i64 E.r, .int .i64 E.d, .int .i64 E.b, .int .i64 E.l, .int .i64 E.m, .int .i64 E.n, .int .i64 E.e, .slice a7 E.s.length c7] 26)).alloc (.cells #[.int .i64 (ce : Int), .int .i64 (ie : Int), .int .i64 0] 31)) = wc at X8 X9 XC X5 X6 HU HX HY HB ⊢
      refine (HSR.out wc).mono ?_
      rintro e w8 ⟨⟨v8, rfl, hz8⟩, hB8⟩
      obtain ⟨a8, c8, rfl, _⟩ := intRow_form hz8
      replace XC := Lib.hid (blk_next XC.out hB8)
      replace X5 := Lib.hid (blk_next X5.out hB8)
      replace X6 := Lib.hid (blk_next X6.out hB8)
      replace X8 := Lib.hid (blk_next X8.out hB8)
      replace X9 := Lib.hid (blk_next X9.out hB8)
      replace HU := Lib.hid (HU.out.below hB8)
      replace HX := Lib.hid (HX.out.below hB8)
      replace HY := Lib.hid (HY.out.below hB8)
      replace HB := Lib.hid (bt HB.out hB8)
      clear hB8 HSR hz8
      have g0 := cell_blk X9.out 0
      have g1 := cell_blk X9.out 1
      have g2 := cell_blk X9.out 2
      have gl := blk_lt X9.out
      have hgne : ((ce : Int) != (ce : Int)) = false := by simp
      have hgni : ((ie : Int) != (ie : Int)) = false := by simp
      have BZ := Lib.hid (bt (below_al w8 (.cells #[.int .i64 E.r, .int .i64 E.d, .int .i64 E.b, .int .i64 E.l, .int .i64 E.m, .int .i64 E.n, .int .i64 E.e, .slice a8 E.s.length c8] 26)) (below_al _ (.cells #[.int .i64 (ce : Int), .int .i64 (ie : Int), .int .i64 0] 31)))
      have p0 := cell_blk XC.out 0
      have p1 := cell_blk XC.out 1
      have p2 := cell_blk XC.out 2
      have p3 := cell_blk XC.out 3
      have p4 := cell_blk XC.out 4
      have p5 := cell_blk XC.out 5
      have p6 := cell_blk XC.out 6
      have p7 := cell_blk XC.out 7
      have pl := blk_lt XC.out
      have x0 := cell_blk X5.out 0
      have x1 := cell_blk X5.out 1
      have x2 := cell_blk X5.out 2
      have x3 := cell_blk X5.out 3
      have x4 := cell_blk X5.out 4
      have x5 := cell_blk X5.out 5
      have x6 := cell_blk X5.out 6
      have x7 := cell_blk X5.out 7
      have xl := blk_lt X5.out
      have f0 := cell_blk X6.out 0
      have f1 := cell_blk X6.out 1
      have f2 := cell_blk X6.out 2
      have fl := blk_lt X6.out
      by_cases hc0 : ce = 0
      · have HKEH := Lib.hid (HRK.out hc0)
        subst hc0
        clear HRK
        have y0 := cell_blk X8.out 0
        have y1 := cell_blk X8.out 1
        have y2 := cell_blk X8.out 2
        have y3 := cell_blk X8.out 3
        have y4 := cell_blk X8.out 4
        have y5 := cell_blk X8.out 5
        have y6 := cell_blk X8.out 6
        have y7 := cell_blk X8.out 7
        have yl := blk_lt X8.out
        go_wp2_with fail
        refine (specSameConfig D C (.slice a5 D.s.length c5) (.slice ua C.s.length uc) _ (HX.out.below BZ.out) (HU.out.below BZ.out)).mono ?_
        rintro e w9 ⟨rfl, hB9⟩
        rw [← HDE.out, sameC_self, HDE.out]
        have BY := Lib.hid (bt BZ.out hB9)
        replace XC := Lib.hid (blk_next XC.out BY.out)
        replace X5 := Lib.hid (blk_next X5.out BY.out)
        replace X6 := Lib.hid (blk_next X6.out BY.out)
        replace X8 := Lib.hid (blk_next X8.out BY.out)
        replace X9 := Lib.hid (blk_next X9.out BY.out)
        replace HU := Lib.hid (HU.out.below BY.out)
        replace HX := Lib.hid (HX.out.below BY.out)
        replace HY := Lib.hid (HY.out.below BY.out)
        replace HB := Lib.hid (bt HB.out BY.out)
        clear hB9 BZ BY
        clear p0 p1 p2 p3 p4 p5 p6 p7 pl
        clear x0 x1 x2 x3 x4 x5 x6 x7 xl
        clear f0 f1 f2 fl
        clear g0 g1 g2 gl
        clear y0 y1 y2 y3 y4 y5 y6 y7 yl
        have p0 := cell_blk XC.out 0
        have p1 := cell_blk XC.out 1
        have p2 := cell_blk XC.out 2
        have p3 := cell_blk XC.out 3
        have p4 := cell_blk XC.out 4
        have p5 := cell_blk XC.out 5
        have p6 := cell_blk XC.out 6
        have p7 := cell_blk XC.out 7
        have pl := blk_lt XC.out
        have x0 := cell_blk X5.out 0
        have x1 := cell_blk X5.out 1
        have x2 := cell_blk X5.out 2
        have x3 := cell_blk X5.out 3
        have x4 := cell_blk X5.out 4
        have x5 := cell_blk X5.out 5
        have x6 := cell_blk X5.out 6
        have x7 := cell_blk X5.out 7
        have xl := blk_lt X5.out
        have g0 := cell_blk X9.out 0
        have g1 := cell_blk X9.out 1
        have g2 := cell_blk X9.out 2
        have gl := blk_lt X9.out
        go_wp2_with fail
        refine (HS.out D C (.slice a5 D.s.length c5) (.slice ua C.s.length uc) w9 HX.out HU.out (by omega) (by omega)).mono ?_
        rintro e w10 ⟨rfl, hB10⟩
        rw [← HDE.out, sameC_self, HDE.out]
        replace X8 := Lib.hid (blk_next X8.out hB10)
        replace X9 := Lib.hid (blk_next X9.out hB10)
        replace HY := Lib.hid (HY.out.below hB10)
        replace HB := Lib.hid (bt HB.out hB10)
        clear hB10
        clear p0 p1 p2 p3 p4 p5 p6 p7 pl
        clear x0 x1 x2 x3 x4 x5 x6 x7 xl
        clear g0 g1 g2 gl
        have g0 := cell_blk X9.out 0
        have g1 := cell_blk X9.out 1
        have g2 := cell_blk X9.out 2
        have gl := blk_lt X9.out
        have y0 := cell_blk X8.out 0
        have y1 := cell_blk X8.out 1
        have y2 := cell_blk X8.out 2
        have y3 := cell_blk X8.out 3
        have y4 := cell_blk X8.out 4
        have y5 := cell_blk X8.out 5
        have y6 := cell_blk X8.out 6
        have y7 := cell_blk X8.out 7
        have yl := blk_lt X8.out
        go_wp2_with fail
        refine (specConfigOk E (.slice a7 E.s.length c7) w10 HY.out).mono ?_
        rintro e w11 ⟨rfl, hB11⟩
        rw [HKEH.out]
        go_wp2_with fail
        go_ret
        exact ⟨rfl, bt HB.out hB11⟩
      · have hne : ((ce : Int) != 0) = true := by
          rw [bne_iff_ne]
          omega
        have yl := blk_lt X8.out
        clear HRK hc0
        go_wp2_with fail
        refine (specSameConfig D C (.slice a5 D.s.length c5) (.slice ua C.s.length uc) _ (HX.out.below BZ.out) (HU.out.below BZ.out)).mono ?_
        rintro e w9 ⟨rfl, hB9⟩
        rw [← HDE.out, sameC_self, HDE.out]
        have BY := Lib.hid (bt BZ.out hB9)
        replace XC := Lib.hid (blk_next XC.out BY.out)
        replace X5 := Lib.hid (blk_next X5.out BY.out)
        replace X6 := Lib.hid (blk_next X6.out BY.out)
        replace X8 := Lib.hid (blk_next X8.out BY.out)
        replace X9 := Lib.hid (blk_next X9.out BY.out)
        replace HU := Lib.hid (HU.out.below BY.out)
        replace HX := Lib.hid (HX.out.below BY.out)
        replace HY := Lib.hid (HY.out.below BY.out)
        replace HB := Lib.hid (bt HB.out BY.out)
        clear hB9 BZ BY
        clear p0 p1 p2 p3 p4 p5 p6 p7 pl
        clear x0 x1 x2 x3 x4 x5 x6 x7 xl
        clear f0 f1 f2 fl
        clear g0 g1 g2 gl
        have p0 := cell_blk XC.out 0
        have p1 := cell_blk XC.out 1
        have p2 := cell_blk XC.out 2
        have p3 := cell_blk XC.out 3
        have p4 := cell_blk XC.out 4
        have p5 := cell_blk XC.out 5
        have p6 := cell_blk XC.out 6
        have p7 := cell_blk XC.out 7
        have pl := blk_lt XC.out
        have x0 := cell_blk X5.out 0
        have x1 := cell_blk X5.out 1
        have x2 := cell_blk X5.out 2
        have x3 := cell_blk X5.out 3
        have x4 := cell_blk X5.out 4
        have x5 := cell_blk X5.out 5
        have x6 := cell_blk X5.out 6
        have x7 := cell_blk X5.out 7
        have xl := blk_lt X5.out
        have g0 := cell_blk X9.out 0
        have g1 := cell_blk X9.out 1
        have g2 := cell_blk X9.out 2
        have gl := blk_lt X9.out
        go_wp2_with fail
        refine (HS.out D C (.slice a5 D.s.length c5) (.slice ua C.s.length uc) w9 HX.out HU.out (by omega) (by omega)).mono ?_
        rintro e w10 ⟨rfl, hB10⟩
        rw [← HDE.out, sameC_self, HDE.out]
        replace X8 := Lib.hid (blk_next X8.out hB10)
        replace X9 := Lib.hid (blk_next X9.out hB10)
        replace HY := Lib.hid (HY.out.below hB10)
        replace HB := Lib.hid (bt HB.out hB10)
        clear hB10
        clear p0 p1 p2 p3 p4 p5 p6 p7 pl
        clear x0 x1 x2 x3 x4 x5 x6 x7 xl
        clear g0 g1 g2 gl
        have g0 := cell_blk X9.out 0
        have g1 := cell_blk X9.out 1
        have g2 := cell_blk X9.out 2
        have gl := blk_lt X9.out
        go_wp2_with fail
        go_ret
        exact ⟨rfl, HB.out⟩
    · have hS : (⟨(textC C).toArray⟩ : ByteArray) = ⟨#[]⟩ := by rw [textC, if_neg hk]
      have hk' : okC C = false := by simpa using hk
      have HTS := Lib.hid (fun W hB hu => HT.out W hB C (.slice ua C.s.length uc) hu (by omega))
      have HSS := Lib.hid (fun W hu => specConfigText C (.slice ua C.s.length uc) W hu)
      rw [hS] at HTS HSS
      obtain ⟨D, cq, iq, hq⟩ : ∃ D cq iq, readC (⟨#[]⟩ : ByteArray).data.toList = (D, cq, iq) := ⟨_, _, _, rfl⟩
      have HQ := Lib.hid hq
      have hdl := readC_len hq
      have HOK := Lib.hid hk'
      clear hS hq hk hk'
      refine (HTS.out wa HB.out HU.out).mono ?_
      rintro e w2 ⟨rfl, hB2⟩
      replace XC := Lib.hid (blk_next XC.out hB2)
      replace HU := Lib.hid (HU.out.below hB2)
      replace HB := Lib.hid (bt HB.out hB2)
      clear hB2 HT HTS
      have p0 := cell_blk XC.out 0
      have p1 := cell_blk XC.out 1
      have p2 := cell_blk XC.out 2
      have p3 := cell_blk XC.out 3
      have p4 := cell_blk XC.out 4
      have p5 := cell_blk XC.out 5
      have p6 := cell_blk XC.out 6
      have p7 := cell_blk XC.out 7
      have pl := blk_lt XC.out
      go_wp2_with fail
      refine (HSS.out w2 HU.out).mono ?_
      rintro e w3 ⟨rfl, hB3⟩
      replace XC := Lib.hid (blk_next XC.out hB3)
      replace HU := Lib.hid (HU.out.below hB3)
      replace HB := Lib.hid (bt HB.out hB3)
      clear hB3 HSS
      clear p0 p1 p2 p3 p4 p5 p6 p7 pl
      have p0 := cell_blk XC.out 0
      have p1 := cell_blk XC.out 1
      have p2 := cell_blk XC.out 2
      have p3 := cell_blk XC.out 3
      have p4 := cell_blk XC.out 4
      have p5 := cell_blk XC.out 5
      have p6 := cell_blk XC.out 6
      have p7 := cell_blk XC.out 7
      have pl := blk_lt XC.out
      go_wp2_with fail
      refine (HO.out C (.slice ua C.s.length uc) w3 HU.out (by omega)).mono ?_
      rintro e w4 ⟨rfl, hB4⟩
      rw [HOK.out]
      replace XC := Lib.hid (blk_next XC.out hB4)
      replace HU := Lib.hid (HU.out.below hB4)
      replace HB := Lib.hid (bt HB.out hB4)
      clear hB4 HO
      clear p0 p1 p2 p3 p4 p5 p6 p7 pl
      go_wp2_with fail
      refine (HR.out w4 HB.out ⟨#[]⟩ D cq iq (by decide) HQ.out).mono ?_
      rintro e w5 ⟨⟨v5, rfl, ho5⟩, hB5⟩
      obtain ⟨a5, c5, rfl⟩ := ownsI_form ho5
      have HX := Lib.hid (intRow_of_owns ho5 (by omega))
      replace XC := Lib.hid (blk_next XC.out hB5)
      replace HU := Lib.hid (HU.out.below hB5)
      replace HB := Lib.hid (bt HB.out hB5)
      clear hB5 ho5
      go_wp2_with fail
      have hAl := bt (below_al w5 (.cells #[.int .i64 D.r, .int .i64 D.d, .int .i64 D.b, .int .i64 D.l, .int .i64 D.m, .int .i64 D.n, .int .i64 D.e, .slice a5 D.s.length c5] 26)) (below_al _ (.cells #[.int .i64 (cq : Int), .int .i64 (iq : Int), .int .i64 0] 31))
      have X5 := Lib.hid (blk_alloc (alloc_blk w5 #[.int .i64 D.r, .int .i64 D.d, .int .i64 D.b, .int .i64 D.l, .int .i64 D.m, .int .i64 D.n, .int .i64 D.e, .slice a5 D.s.length c5] 26) (.cells #[.int .i64 (cq : Int), .int .i64 (iq : Int), .int .i64 0] 31))
      have x6q := alloc_blk (w5.alloc (.cells #[.int .i64 D.r, .int .i64 D.d, .int .i64 D.b, .int .i64 D.l, .int .i64 D.m, .int .i64 D.n, .int .i64 D.e, .slice a5 D.s.length c5] 26)) #[.int .i64 (cq : Int), .int .i64 (iq : Int), .int .i64 0] 31
      simp only [size_alloc] at x6q
      have X6 := Lib.hid x6q
      replace XC := Lib.hid (blk_next XC.out hAl)
      replace HU := Lib.hid (HU.out.below hAl)
      replace HX := Lib.hid (HX.out.below hAl)
      replace HB := Lib.hid (bt HB.out hAl)
      clear x6q hAl
      generalize ((w5.alloc (.cells #[.int .i64 D.r, .int .i64 D.d, .int .i64 D.b, .int .i64 D.l, .int .i64 D.m, .int .i64 D.n, .int .i64 D.e, .slice a5 D.s.length c5] 26)).alloc (.cells #[.int .i64 (cq : Int), .int .i64 (iq : Int), .int .i64 0] 31)) = wb at X5 X6 XC HU HX HB ⊢
      refine (drawReadConfig wb v n (HBY.out.next HB.out)).mono ?_
      rintro e w6 ⟨⟨t, ht, rfl⟩, hB6⟩
      obtain ⟨E, ce, ie, hqe⟩ : ∃ E ce ie, readC t.data.toList = (E, ce, ie) := ⟨_, _, _, rfl⟩
      have hel := readC_len hqe
      have HQE := Lib.hid hqe
      have HRK := Lib.hid (fun (h0 : ce = 0) => show okC E = true by
        have h := readC_ok (l := t.data.toList)
        rw [hqe] at h
        exact h h0)
      have HSR := Lib.hid (fun W => (specReadConfig t W).mono fun e w' k => (⟨rcPost_at hqe k.1, k.2⟩ : RcAt E ce ie e w' ∧ Below W.heap.size W w'))
      clear hqe
      replace XC := Lib.hid (blk_next XC.out hB6)
      replace X5 := Lib.hid (blk_next X5.out hB6)
      replace X6 := Lib.hid (blk_next X6.out hB6)
      replace HU := Lib.hid (HU.out.below hB6)
      replace HX := Lib.hid (HX.out.below hB6)
      replace HB := Lib.hid (bt HB.out hB6)
      clear hB6
      go_wp2_with fail
      refine (HR.out w6 HB.out t E ce ie (by omega) HQE.out).mono ?_
      rintro e w7 ⟨⟨v7, rfl, ho7⟩, hB7⟩
      obtain ⟨a7, c7, rfl⟩ := ownsI_form ho7
      have HY := Lib.hid (intRow_of_owns ho7 (by omega))
      replace XC := Lib.hid (blk_next XC.out hB7)
      replace X5 := Lib.hid (blk_next X5.out hB7)
      replace X6 := Lib.hid (blk_next X6.out hB7)
      replace HU := Lib.hid (HU.out.below hB7)
      replace HX := Lib.hid (HX.out.below hB7)
      replace HB := Lib.hid (bt HB.out hB7)
      clear hB7 ho7 HR HQE
      go_wp2_with fail
      have hAl := bt (below_al w7 (.cells #[.int .i64 E.r, .int .i64 E.d, .int .i64 E.b, .int .i64 E.l, .int .i64 E.m, .int .i64 E.n, .int .i64 E.e, .slice a7 E.s.length c7] 26)) (below_al _ (.cells #[.int .i64 (ce : Int), .int .i64 (ie : Int), .int .i64 0] 31))
      have X8 := Lib.hid (blk_alloc (alloc_blk w7 #[.int .i64 E.r, .int .i64 E.d, .int .i64 E.b, .int .i64 E.l, .int .i64 E.m, .int .i64 E.n, .int .i64 E.e, .slice a7 E.s.length c7] 26) (.cells #[.int .i64 (ce : Int), .int .i64 (ie : Int), .int .i64 0] 31))
      have x9q := alloc_blk (w7.alloc (.cells #[.int .i64 E.r, .int .i64 E.d, .int .i64 E.b, .int .i64 E.l, .int .i64 E.m, .int .i64 E.n, .int .i64 E.e, .slice a7 E.s.length c7] 26)) #[.int .i64 (ce : Int), .int .i64 (ie : Int), .int .i64 0] 31
      simp only [size_alloc] at x9q
      have X9 := Lib.hid x9q
      replace XC := Lib.hid (blk_next XC.out hAl)
      replace X5 := Lib.hid (blk_next X5.out hAl)
      replace X6 := Lib.hid (blk_next X6.out hAl)
      replace HU := Lib.hid (HU.out.below hAl)
      replace HX := Lib.hid (HX.out.below hAl)
      replace HY := Lib.hid (HY.out.below hAl)
      replace HB := Lib.hid (bt HB.out hAl)
      clear x9q hAl
      generalize ((w7.alloc (.cells #[.int .i64 E.r, .int .i64 E.d, .int .i64 E.b, .int .i64 E.l, .int .i64 E.m, .int .i64 E.n, .int .i64 E.e, .slice a7 E.s.length c7] 26)).alloc (.cells #[.int .i64 (ce : Int), .int .i64 (ie : Int), .int .i64 0] 31)) = wc at X8 X9 XC X5 X6 HU HX HY HB ⊢
      refine (HSR.out wc).mono ?_
      rintro e w8 ⟨⟨v8, rfl, hz8⟩, hB8⟩
      obtain ⟨a8, c8, rfl, _⟩ := intRow_form hz8
      replace XC := Lib.hid (blk_next XC.out hB8)
      replace X5 := Lib.hid (blk_next X5.out hB8)
      replace X6 := Lib.hid (blk_next X6.out hB8)
      replace X8 := Lib.hid (blk_next X8.out hB8)
      replace X9 := Lib.hid (blk_next X9.out hB8)
      replace HU := Lib.hid (HU.out.below hB8)
      replace HX := Lib.hid (HX.out.below hB8)
      replace HY := Lib.hid (HY.out.below hB8)
      replace HB := Lib.hid (bt HB.out hB8)
      clear hB8 HSR hz8
      have g0 := cell_blk X9.out 0
      have g1 := cell_blk X9.out 1
      have g2 := cell_blk X9.out 2
      have gl := blk_lt X9.out
      have hgne : ((ce : Int) != (ce : Int)) = false := by simp
      have hgni : ((ie : Int) != (ie : Int)) = false := by simp
      have BZ := Lib.hid (bt (below_al w8 (.cells #[.int .i64 E.r, .int .i64 E.d, .int .i64 E.b, .int .i64 E.l, .int .i64 E.m, .int .i64 E.n, .int .i64 E.e, .slice a8 E.s.length c8] 26)) (below_al _ (.cells #[.int .i64 (ce : Int), .int .i64 (ie : Int), .int .i64 0] 31)))
      by_cases hc0 : ce = 0
      · have HKEH := Lib.hid (HRK.out hc0)
        subst hc0
        clear HRK
        have y0 := cell_blk X8.out 0
        have y1 := cell_blk X8.out 1
        have y2 := cell_blk X8.out 2
        have y3 := cell_blk X8.out 3
        have y4 := cell_blk X8.out 4
        have y5 := cell_blk X8.out 5
        have y6 := cell_blk X8.out 6
        have y7 := cell_blk X8.out 7
        have yl := blk_lt X8.out
        go_wp2_with fail
        refine (specConfigOk E (.slice a7 E.s.length c7) _ (HY.out.below BZ.out)).mono ?_
        rintro e w11 ⟨rfl, hB11⟩
        rw [HKEH.out]
        go_wp2_with fail
        go_ret
        exact ⟨rfl, bt HB.out (bt BZ.out hB11)⟩
      · have hne : ((ce : Int) != 0) = true := by
          rw [bne_iff_ne]
          omega
        have yl := blk_lt X8.out
        clear HRK hc0
        go_wp2_with fail
        go_ret
        exact ⟨rfl, bt HB.out BZ.out⟩
end Go.Proofs.YtnnbhgnllbjmeaaGreatDoor
