
/-
  The walk of the law on the order of fractions.
-/
import Derived.Test.YtapdocfifgnjgaaFracL
import Derived.Test.YtapdocfifgnjgaaI5
namespace Go.Proofs.Ytapdocfifgnjgaa
open Go.RowKit

set_option maxRecDepth 100000 in
set_option maxHeartbeats 4000000 in
theorem lawFnFracOrder (w : World) (v : Value) (n : Nat) (hb : Bytes w v n) :
    Calls Try.prog 3 #[v] w fun e w' => e = .returned (.bool true) ∧ Below w.heap.size w w' := by
  by_cases hbig : 1048576 < n
  · skip
    go_enter Try.func3, Try.ntmps3
    go_wp2_with fail
    refine (big_yes w v n hb hbig).mono ?_
    rintro e w1 ⟨rfl, rfl⟩
    go_wp2_with fail
    go_ret
    exact ⟨rfl, Below.refl _ _⟩
  · skip
    go_enter Try.func3, Try.ntmps3
    go_wp2_with fail
    refine (big_no w v n hb hbig).mono ?_
    rintro e w1 ⟨rfl, rfl⟩
    go_wp2_with fail
    refine (drawCompareFrac w v n hb).mono ?_
    rintro e w1 ⟨⟨n0, h0, l0, d0, n1, h1, l1, d1, ⟨⟨hp0, hq0⟩, ⟨lp0, lq0⟩, ⟨dp0, dq0⟩⟩, ⟨⟨hp1, hq1⟩, ⟨lp1, lq1⟩, ⟨dp1, dq1⟩⟩, rfl⟩, hB1⟩
    have HT := Lib.hid hB1
    clear hB1
    obtain ⟨N, ok, hN, hE1, hE2, hEq⟩ := cmp_both n0 h0 l0 d0 n1 h1 l1 d1
    have HE1 := Lib.hid hE1
    have HE2 := Lib.hid hE2
    have HEq := Lib.hid hEq
    clear hE1 hE2 hEq
    go_wp2_with fail
    refine (implCompareFrac n0 h0 l0 d0 n1 h1 l1 d1 hp0 hq0 lp0 lq0 dp0 dq0 hp1 hq1 lp1 lq1 dp1 dq1 _).mono ?_
    rintro e w2 ⟨rfl, hB2⟩
    rw [HE1.out]
    obtain ⟨hA, hB, hBB, _⟩ := box2 hB2
    replace HT := Lib.hid (bt2 HT.out hBB)
    clear hBB hB2
    have cA0 : w2.cell? ⟨w1.heap.size, 0, none⟩ = some (.bool n0) := cell_blk hA 0
    have cA1 : w2.cell? ⟨w1.heap.size, 1, none⟩ = some (.int .u64 h0) := cell_blk hA 1
    have cA2 : w2.cell? ⟨w1.heap.size, 2, none⟩ = some (.int .u64 l0) := cell_blk hA 2
    have cA3 : w2.cell? ⟨w1.heap.size, 3, none⟩ = some (.int .i64 d0) := cell_blk hA 3
    have lA := blkF hA
    have cB0 : w2.cell? ⟨w1.heap.size + 1, 0, none⟩ = some (.bool n1) := cell_blk hB 0
    have cB1 : w2.cell? ⟨w1.heap.size + 1, 1, none⟩ = some (.int .u64 h1) := cell_blk hB 1
    have cB2 : w2.cell? ⟨w1.heap.size + 1, 2, none⟩ = some (.int .u64 l1) := cell_blk hB 2
    have cB3 : w2.cell? ⟨w1.heap.size + 1, 3, none⟩ = some (.int .i64 d1) := cell_blk hB 3
    have lB := blkF hB
    go_wp2_with fail
    refine (implCompareFrac n1 h1 l1 d1 n0 h0 l0 d0 hp1 hq1 lp1 lq1 dp1 dq1 hp0 hq0 lp0 lq0 dp0 dq0 _).mono ?_
    rintro e w3 ⟨rfl, hB3⟩
    rw [HE2.out]
    clear cA0 cA1 cA2 cA3 lA
    clear cB0 cB1 cB2 cB3 lB
    have hBB := hB3
    replace hA := box_still hA hBB
    replace hB := box_still hB hBB
    replace HT := Lib.hid (bt2 HT.out hBB)
    clear hBB hB3
    have cA0 : w3.cell? ⟨w1.heap.size, 0, none⟩ = some (.bool n0) := cell_blk hA 0
    have cA1 : w3.cell? ⟨w1.heap.size, 1, none⟩ = some (.int .u64 h0) := cell_blk hA 1
    have cA2 : w3.cell? ⟨w1.heap.size, 2, none⟩ = some (.int .u64 l0) := cell_blk hA 2
    have cA3 : w3.cell? ⟨w1.heap.size, 3, none⟩ = some (.int .i64 d0) := cell_blk hA 3
    have lA := blkF hA
    have cB0 : w3.cell? ⟨w1.heap.size + 1, 0, none⟩ = some (.bool n1) := cell_blk hB 0
    have cB1 : w3.cell? ⟨w1.heap.size + 1, 1, none⟩ = some (.int .u64 h1) := cell_blk hB 1
    have cB2 : w3.cell? ⟨w1.heap.size + 1, 2, none⟩ = some (.int .u64 l1) := cell_blk hB 2
    have cB3 : w3.cell? ⟨w1.heap.size + 1, 3, none⟩ = some (.int .i64 d1) := cell_blk hB 3
    have lB := blkF hB
    go_wp2_with fail
    refine (specCompareFrac n0 h0 l0 d0 n1 h1 l1 d1 hp0 hq0 lp0 lq0 dp0 dq0 hp1 hq1 lp1 lq1 dp1 dq1 _).mono ?_
    rintro e w4 ⟨rfl, hB4⟩
    rw [HE1.out]
    clear cA0 cA1 cA2 cA3 lA
    clear cB0 cB1 cB2 cB3 lB
    have hBB := hB4
    replace hA := box_still hA hBB
    replace hB := box_still hB hBB
    replace HT := Lib.hid (bt2 HT.out hBB)
    clear hBB hB4
    go_wp2_with fail
    refine (at0 _ v n 3 (hb.mono HT.out) (by omega)).mono ?_
    rintro e w5 ⟨⟨g, g0, g1, rfl⟩, rfl⟩
    go_wp2_with fail
    refine (at0 _ v n 4 (hb.mono HT.out) (by omega)).mono ?_
    rintro e w5 ⟨⟨q, q0, q1, rfl⟩, rfl⟩
    go_wp2_with fail
    refine (specSquareOver g (1 + q % 9) (by omega) (by omega) _).mono ?_
    rintro e w5 ⟨rfl, hB5⟩
    obtain ⟨d2, hd2⟩ : ∃ d, 1 + q % 9 = d := ⟨_, rfl⟩
    obtain ⟨n2, h2, l2, ⟨hp2, hq2⟩, ⟨lp2, lq2⟩, hS⟩ := sqE_small (z := g) (m := 1 + q % 9) (by omega) (by omega) (by omega) (by omega)
    rw [hS]
    rw [hd2]
    have e2 : 1 ≤ d2 ∧ d2 ≤ 9 := by omega
    clear hS hd2
    have hBB := hB5
    replace hA := box_still hA hBB
    replace hB := box_still hB hBB
    replace HT := Lib.hid (bt2 HT.out hBB)
    clear hBB hB5
    have cA0 : w5.cell? ⟨w1.heap.size, 0, none⟩ = some (.bool n0) := cell_blk hA 0
    have cA1 : w5.cell? ⟨w1.heap.size, 1, none⟩ = some (.int .u64 h0) := cell_blk hA 1
    have cA2 : w5.cell? ⟨w1.heap.size, 2, none⟩ = some (.int .u64 l0) := cell_blk hA 2
    have cA3 : w5.cell? ⟨w1.heap.size, 3, none⟩ = some (.int .i64 d0) := cell_blk hA 3
    have lA := blkF hA
    have cB0 : w5.cell? ⟨w1.heap.size + 1, 0, none⟩ = some (.bool n1) := cell_blk hB 0
    have cB1 : w5.cell? ⟨w1.heap.size + 1, 1, none⟩ = some (.int .u64 h1) := cell_blk hB 1
    have cB2 : w5.cell? ⟨w1.heap.size + 1, 2, none⟩ = some (.int .u64 l1) := cell_blk hB 2
    have cB3 : w5.cell? ⟨w1.heap.size + 1, 3, none⟩ = some (.int .i64 d1) := cell_blk hB 3
    have lB := blkF hB
    obtain ⟨n3, h3, l3, d3, one, ⟨hp3, hq3⟩, ⟨lp3, lq3⟩, ⟨dp3, dq3⟩, hX, hXo⟩ := add_parts n0 h0 l0 d0 n2 h2 l2 d2
    obtain ⟨n4, h4, l4, d4, two, ⟨hp4, hq4⟩, ⟨lp4, lq4⟩, ⟨dp4, dq4⟩, hY, hYo⟩ := add_parts n1 h1 l1 d1 n2 h2 l2 d2
    have HX := Lib.hid hX
    have HY := Lib.hid hY
    have HXo := Lib.hid hXo
    have HYo := Lib.hid hYo
    clear hX hY hXo hYo
    go_wp2_with fail
    refine (implAddFrac n0 h0 l0 d0 n2 h2 l2 d2 hp0 hq0 lp0 lq0 dp0 dq0 hp2 hq2 lp2 lq2 (by omega) (by omega) _).mono ?_
    rintro e w6 ⟨rfl, hB6⟩
    rw [HX.out]
    clear cA0 cA1 cA2 cA3 lA
    clear cB0 cB1 cB2 cB3 lB
    have hC := box_kept hB6
    have hBB := box_below hB6
    replace hA := box_still hA hBB
    replace hB := box_still hB hBB
    replace HT := Lib.hid (bt2 HT.out hBB)
    clear hBB hB6
    have cB0 : w6.cell? ⟨w1.heap.size + 1, 0, none⟩ = some (.bool n1) := cell_blk hB 0
    have cB1 : w6.cell? ⟨w1.heap.size + 1, 1, none⟩ = some (.int .u64 h1) := cell_blk hB 1
    have cB2 : w6.cell? ⟨w1.heap.size + 1, 2, none⟩ = some (.int .u64 l1) := cell_blk hB 2
    have cB3 : w6.cell? ⟨w1.heap.size + 1, 3, none⟩ = some (.int .i64 d1) := cell_blk hB 3
    have lB := blkF hB
    have cC0 : w6.cell? ⟨w5.heap.size, 0, none⟩ = some (.bool n2) := cell_blk hC 0
    have cC1 : w6.cell? ⟨w5.heap.size, 1, none⟩ = some (.int .u64 h2) := cell_blk hC 1
    have cC2 : w6.cell? ⟨w5.heap.size, 2, none⟩ = some (.int .u64 l2) := cell_blk hC 2
    have cC3 : w6.cell? ⟨w5.heap.size, 3, none⟩ = some (.int .i64 d2) := cell_blk hC 3
    have lC := blkF hC
    go_wp2_with fail
    refine (implAddFrac n1 h1 l1 d1 n2 h2 l2 d2 hp1 hq1 lp1 lq1 dp1 dq1 hp2 hq2 lp2 lq2 (by omega) (by omega) _).mono ?_
    rintro e w7 ⟨rfl, hB7⟩
    rw [HY.out]
    clear cB0 cB1 cB2 cB3 lB
    clear cC0 cC1 cC2 cC3 lC
    have hX := box_kept hB7
    have hBB := box_below hB7
    replace hA := box_still hA hBB
    replace hB := box_still hB hBB
    replace hC := box_still hC hBB
    replace HT := Lib.hid (bt2 HT.out hBB)
    clear hBB hB7
    clear hA hB hC
    cases ok with
    | false =>
      go_wp2_with fail
      go_ret
      exact ⟨rfl, HT.out.alloc HT.out.size _⟩
    | true =>
      cases one with
      | false =>
        go_wp2_with fail
        go_ret
        exact ⟨rfl, HT.out.alloc HT.out.size _⟩
      | true =>
        cases two with
        | false =>
          go_wp2_with fail
          go_ret
          exact ⟨rfl, HT.out.alloc HT.out.size _⟩
        | true =>
          have cX0 : w7.cell? ⟨w6.heap.size, 0, none⟩ = some (.bool n3) := cell_blk hX 0
          have cX1 : w7.cell? ⟨w6.heap.size, 1, none⟩ = some (.int .u64 h3) := cell_blk hX 1
          have cX2 : w7.cell? ⟨w6.heap.size, 2, none⟩ = some (.int .u64 l3) := cell_blk hX 2
          have cX3 : w7.cell? ⟨w6.heap.size, 3, none⟩ = some (.int .i64 d3) := cell_blk hX 3
          have lX := blkF hX
          obtain ⟨K, three, hK, hE3, _, hKo⟩ := cmp_both n3 h3 l3 d3 n4 h4 l4 d4
          have HE3 := Lib.hid hE3
          have HK : Hid (three = true → K = N) := Lib.hid (fun h3' => by
            have a := HEq.out rfl
            have x := HXo.out rfl
            have y := HYo.out rfl
            have k := hKo h3'
            rw [k.2, x.2.2.1, y.2.2.1, x.2.1, y.2.1, a.2]
            exact cmp_added (by omega))
          clear hE3 hKo
          go_wp2_with fail
          refine (implCompareFrac n3 h3 l3 d3 n4 h4 l4 d4 hp3 hq3 lp3 lq3 dp3 dq3 hp4 hq4 lp4 lq4 dp4 dq4 _).mono ?_
          rintro e w8 ⟨rfl, hB8⟩
          rw [HE3.out]
          replace HT := Lib.hid (bt2 HT.out (box_below hB8))
          clear hB8
          clear cX0 cX1 cX2 cX3 lX
          cases three with
          | false =>
            go_wp2_with fail
            go_ret
            exact ⟨rfl, HT.out⟩
          | true =>
            have hKN := HK.out rfl
            subst hKN
            go_wp2_with fail
            go_ret
            exact ⟨by first | rfl | simp, HT.out⟩
end Go.Proofs.Ytapdocfifgnjgaa
