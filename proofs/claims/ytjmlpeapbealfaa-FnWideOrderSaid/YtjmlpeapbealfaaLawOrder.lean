
/-
  Chapter 4: the walk of the law on the order of wide numbers.
-/
import Derived.Test.YtjmlpeapbealfaaLawWide
import Derived.Test.YtjmlpeapbealfaaImpG
namespace Go.Proofs.Ytjmlpeapbealfaa
open Go.RowKit

theorem cmpV_eq {n : Bool} {h l : Int} {m : Bool} {k j : Int} (c : sv n (h * 18446744073709551616 + l) = sv m (k * 18446744073709551616 + j)) : cmpV n h l m k j = 0 := by rw [cmpV, if_neg (by omega), if_neg (by omega)]
theorem parts_eq {n : Bool} {h l : Int} {m : Bool} {k j : Int} (h0 : 0 ≤ h) (l0 : 0 ≤ l) (l1 : l < 18446744073709551616) (k0 : 0 ≤ k) (j0 : 0 ≤ j) (j1 : j < 18446744073709551616) (a : okV n h l = true) (b : okV m k j = true)
    (e : sv n (h * 18446744073709551616 + l) = sv m (k * 18446744073709551616 + j)) : n = m ∧ h = k ∧ l = j := by
  have x := wideC_of_ok h0 l0 l1 a
  have y := wideC_of_ok k0 j0 j1 b
  rw [e, y] at x
  simp only [Value.agg.injEq, Array.mk.injEq, List.cons.injEq, Value.bool.injEq, Value.int.injEq, and_true, true_and] at x
  exact ⟨x.1.symm, x.2.1.symm, x.2.2.symm⟩
theorem sub_shape {n : Bool} {h l : Int} {m : Bool} {k j : Int} (k0 : 0 ≤ k) (j0 : 0 ≤ j) (a : okV n h l = true) (b : okV m k j = true) :
    addE n h l (negV m k j) k j = fitW (sv n (h * 18446744073709551616 + l) - sv m (k * 18446744073709551616 + j)) := by
  rw [addE, if_pos ⟨a, negV_okV k0 j0 b⟩, negV_sv k0 j0 b, Int.sub_eq_add_neg]
theorem cmp_zero {z : Int} {n : Bool} {h l : Int} (hr : RoomW z) (e : wideC z = .agg #[.bool n, .int .u64 h, .int .u64 l]) : cmpV n h l false 0 0 = if z < 0 then -1 else if 0 < z then 1 else 0 := by
  obtain ⟨_, d⟩ := wideC_okV hr e
  rw [cmpV, d]
  simp [sv]

set_option maxRecDepth 100000 in
set_option maxHeartbeats 4000000 in
theorem lawFnWideOrder (w : World) (v : Value) (n : Nat) (hb : Bytes w v n) :
    Calls Try.prog 5 #[v] w fun e w' => e = .returned (.bool true) ∧ Below w.heap.size w w' := by
  by_cases hbig : 1048576 < n
  · go_enter Try.func5, Try.ntmps5
    go_wp2_with fail
    refine (big_yes w v n hb hbig).mono ?_
    rintro e w1 ⟨rfl, rfl⟩
    go_wp2_with fail
    go_ret
    exact ⟨rfl, Below.refl _ _⟩
  · go_enter Try.func5, Try.ntmps5
    go_wp2_with fail
    refine (big_no w v n hb hbig).mono ?_
    rintro e w1 ⟨rfl, rfl⟩
    go_wp2_with fail
    refine (drawCompareWide w v n hb).mono ?_
    rintro e w1 ⟨⟨n0, h0, l0, n1, h1, l1, ⟨hp0, hq0⟩, ⟨lp0, lq0⟩, ⟨hp1, hq1⟩, ⟨lp1, lq1⟩, rfl⟩, hB1⟩
    have hBB := hB1
    have HT := Lib.hid hBB
    clear hBB hB1
    clear hb hbig
    rcases (show sv n0 (h0 * 18446744073709551616 + l0) < sv n1 (h1 * 18446744073709551616 + l1) ∨ sv n0 (h0 * 18446744073709551616 + l0) = sv n1 (h1 * 18446744073709551616 + l1) ∨ sv n1 (h1 * 18446744073709551616 + l1) < sv n0 (h0 * 18446744073709551616 + l0) by omega) with hc | hc | hc
    · skip
      have HN : Hid (cmpV n0 h0 l0 n1 h1 l1 = -1) := Lib.hid (cmpV_lt hc)
      have HM : Hid (cmpV n1 h1 l1 n0 h0 l0 = 1) := Lib.hid (cmpV_gt hc)
      by_cases hk0 : okV n0 h0 l0 = true
      · by_cases hk1 : okV n1 h1 l1 = true
        · have hne : ¬ (n0 = n1 ∧ h0 = h1 ∧ l0 = l1) := by rintro ⟨rfl, rfl, rfl⟩; omega
          have HNE := Lib.hid hne
          clear hne
          by_cases hr : RoomW (sv n0 (h0 * 18446744073709551616 + l0) - sv n1 (h1 * 18446744073709551616 + l1))
          · obtain ⟨n2, h2, l2, hZ⟩ : ∃ (n : Bool) (h l : Int), wideC (sv n0 (h0 * 18446744073709551616 + l0) - sv n1 (h1 * 18446744073709551616 + l1)) = .agg #[.bool n, .int .u64 h, .int .u64 l] := ⟨_, _, _, rfl⟩
            have HS : Hid (addE n0 h0 l0 (negV n1 h1 l1) h1 l1 = .returned (.tuple #[.agg #[.bool n2, .int .u64 h2, .int .u64 l2], .bool true])) := Lib.hid (by rw [sub_shape hp1 lp1 hk0 hk1, fitW_in hr, hZ])
            have HZ : Hid (cmpV n2 h2 l2 false 0 0 = -1) := Lib.hid (by rw [cmp_zero hr hZ]; rw [if_pos (by omega)])
            have q2 := wideC_bounds hZ
            clear hZ hr hc
            go_wp2_with fail
            refine (implCompareWide n0 h0 l0 n1 h1 l1 hp0 lp0 lq0 hp1 lp1 lq1 _).mono ?_
            rintro e w2 ⟨rfl, hB2⟩
            obtain ⟨hXa, hXb, hBB, _⟩ := box2 hB2
            replace HT := Lib.hid (bt2 HT.out hBB)
            clear hBB hB2
            rw [HN.out]
            have hca0 : w2.cell? ⟨w1.heap.size, 0, none⟩ = some (.bool n0) := cell_blk hXa 0
            have hca1 : w2.cell? ⟨w1.heap.size, 1, none⟩ = some (.int .u64 h0) := cell_blk hXa 1
            have hca2 : w2.cell? ⟨w1.heap.size, 2, none⟩ = some (.int .u64 l0) := cell_blk hXa 2
            have hlta : w1.heap.size < w2.heap.size := blk_ltW hXa
            have hcb0 : w2.cell? ⟨w1.heap.size + 1, 0, none⟩ = some (.bool n1) := cell_blk hXb 0
            have hcb1 : w2.cell? ⟨w1.heap.size + 1, 1, none⟩ = some (.int .u64 h1) := cell_blk hXb 1
            have hcb2 : w2.cell? ⟨w1.heap.size + 1, 2, none⟩ = some (.int .u64 l1) := cell_blk hXb 2
            have hltb : w1.heap.size + 1 < w2.heap.size := blk_ltW hXb
            go_wp2_with fail
            clear hca0 hca1 hca2 hlta hcb0 hcb1 hcb2 hltb
            refine (specCompareWide n0 h0 l0 n1 h1 l1 hp0 lp0 lq0 hp1 lp1 lq1 _).mono ?_
            rintro e w3 ⟨rfl, hB3⟩
            have hBB := hB3
            replace hXa := box_still hXa hBB
            replace hXb := box_still hXb hBB
            replace HT := Lib.hid (bt2 HT.out hBB)
            clear hBB hB3
            rw [HN.out]
            have hca0 : w3.cell? ⟨w1.heap.size, 0, none⟩ = some (.bool n0) := cell_blk hXa 0
            have hca1 : w3.cell? ⟨w1.heap.size, 1, none⟩ = some (.int .u64 h0) := cell_blk hXa 1
            have hca2 : w3.cell? ⟨w1.heap.size, 2, none⟩ = some (.int .u64 l0) := cell_blk hXa 2
            have hlta : w1.heap.size < w3.heap.size := blk_ltW hXa
            have hcb0 : w3.cell? ⟨w1.heap.size + 1, 0, none⟩ = some (.bool n1) := cell_blk hXb 0
            have hcb1 : w3.cell? ⟨w1.heap.size + 1, 1, none⟩ = some (.int .u64 h1) := cell_blk hXb 1
            have hcb2 : w3.cell? ⟨w1.heap.size + 1, 2, none⟩ = some (.int .u64 l1) := cell_blk hXb 2
            have hltb : w1.heap.size + 1 < w3.heap.size := blk_ltW hXb
            go_wp2_with fail
            clear hca0 hca1 hca2 hlta hcb0 hcb1 hcb2 hltb
            refine (implCompareWide n1 h1 l1 n0 h0 l0 hp1 lp1 lq1 hp0 lp0 lq0 _).mono ?_
            rintro e w4 ⟨rfl, hB4⟩
            have hBB := hB4
            replace hXa := box_still hXa hBB
            replace hXb := box_still hXb hBB
            replace HT := Lib.hid (bt2 HT.out hBB)
            clear hBB hB4
            rw [HM.out]
            have hca0 : w4.cell? ⟨w1.heap.size, 0, none⟩ = some (.bool n0) := cell_blk hXa 0
            have hca1 : w4.cell? ⟨w1.heap.size, 1, none⟩ = some (.int .u64 h0) := cell_blk hXa 1
            have hca2 : w4.cell? ⟨w1.heap.size, 2, none⟩ = some (.int .u64 l0) := cell_blk hXa 2
            have hlta : w1.heap.size < w4.heap.size := blk_ltW hXa
            have hcb0 : w4.cell? ⟨w1.heap.size + 1, 0, none⟩ = some (.bool n1) := cell_blk hXb 0
            have hcb1 : w4.cell? ⟨w1.heap.size + 1, 1, none⟩ = some (.int .u64 h1) := cell_blk hXb 1
            have hcb2 : w4.cell? ⟨w1.heap.size + 1, 2, none⟩ = some (.int .u64 l1) := cell_blk hXb 2
            have hltb : w1.heap.size + 1 < w4.heap.size := blk_ltW hXb
            go_wp2_with fail
            clear hca0 hca1 hca2 hlta hcb0 hcb1 hcb2 hltb
            refine (specWideOk n0 h0 l0 _).mono ?_
            rintro e w5 ⟨rfl, hB5⟩
            have hBB := hB5
            replace hXa := box_still hXa hBB
            replace hXb := box_still hXb hBB
            replace HT := Lib.hid (bt2 HT.out hBB)
            clear hBB hB5
            rw [hk0]
            have hca0 : w5.cell? ⟨w1.heap.size, 0, none⟩ = some (.bool n0) := cell_blk hXa 0
            have hca1 : w5.cell? ⟨w1.heap.size, 1, none⟩ = some (.int .u64 h0) := cell_blk hXa 1
            have hca2 : w5.cell? ⟨w1.heap.size, 2, none⟩ = some (.int .u64 l0) := cell_blk hXa 2
            have hlta : w1.heap.size < w5.heap.size := blk_ltW hXa
            have hcb0 : w5.cell? ⟨w1.heap.size + 1, 0, none⟩ = some (.bool n1) := cell_blk hXb 0
            have hcb1 : w5.cell? ⟨w1.heap.size + 1, 1, none⟩ = some (.int .u64 h1) := cell_blk hXb 1
            have hcb2 : w5.cell? ⟨w1.heap.size + 1, 2, none⟩ = some (.int .u64 l1) := cell_blk hXb 2
            have hltb : w1.heap.size + 1 < w5.heap.size := blk_ltW hXb
            go_wp2_with fail
            clear hca0 hca1 hca2 hlta hcb0 hcb1 hcb2 hltb
            refine (specWideOk n1 h1 l1 _).mono ?_
            rintro e w6 ⟨rfl, hB6⟩
            have hBB := hB6
            replace hXa := box_still hXa hBB
            replace hXb := box_still hXb hBB
            replace HT := Lib.hid (bt2 HT.out hBB)
            clear hBB hB6
            rw [hk1]
            have hca0 : w6.cell? ⟨w1.heap.size, 0, none⟩ = some (.bool n0) := cell_blk hXa 0
            have hca1 : w6.cell? ⟨w1.heap.size, 1, none⟩ = some (.int .u64 h0) := cell_blk hXa 1
            have hca2 : w6.cell? ⟨w1.heap.size, 2, none⟩ = some (.int .u64 l0) := cell_blk hXa 2
            have hlta : w1.heap.size < w6.heap.size := blk_ltW hXa
            have hcb0 : w6.cell? ⟨w1.heap.size + 1, 0, none⟩ = some (.bool n1) := cell_blk hXb 0
            have hcb1 : w6.cell? ⟨w1.heap.size + 1, 1, none⟩ = some (.int .u64 h1) := cell_blk hXb 1
            have hcb2 : w6.cell? ⟨w1.heap.size + 1, 2, none⟩ = some (.int .u64 l1) := cell_blk hXb 2
            have hltb : w1.heap.size + 1 < w6.heap.size := blk_ltW hXb
            go_wp2_with fail
            clear hca0 hca1 hca2 hlta hcb0 hcb1 hcb2 hltb
            refine (implSubWide n0 h0 l0 n1 h1 l1 hp0 hp1 lp0 lq0 lp1 lq1 _).mono ?_
            rintro e w7 ⟨rfl, hB7⟩
            have hBB := hB7
            replace hXa := box_still hXa hBB
            replace hXb := box_still hXb hBB
            replace HT := Lib.hid (bt2 HT.out hBB)
            clear hBB hB7
            rw [HS.out]
            have hca0 : w7.cell? ⟨w1.heap.size, 0, none⟩ = some (.bool n0) := cell_blk hXa 0
            have hca1 : w7.cell? ⟨w1.heap.size, 1, none⟩ = some (.int .u64 h0) := cell_blk hXa 1
            have hca2 : w7.cell? ⟨w1.heap.size, 2, none⟩ = some (.int .u64 l0) := cell_blk hXa 2
            have hlta : w1.heap.size < w7.heap.size := blk_ltW hXa
            have hcb0 : w7.cell? ⟨w1.heap.size + 1, 0, none⟩ = some (.bool n1) := cell_blk hXb 0
            have hcb1 : w7.cell? ⟨w1.heap.size + 1, 1, none⟩ = some (.int .u64 h1) := cell_blk hXb 1
            have hcb2 : w7.cell? ⟨w1.heap.size + 1, 2, none⟩ = some (.int .u64 l1) := cell_blk hXb 2
            have hltb : w1.heap.size + 1 < w7.heap.size := blk_ltW hXb
            go_wp2_with fail
            all_goals first
              | exact (HNE.out ⟨by first | assumption | rfl, by first | assumption | rfl, by first | assumption | rfl⟩).elim
              | (refine (implCompareWide n2 h2 l2 false 0 0 q2.1 q2.2.1 q2.2.2.1 (by omega) (by omega) (by omega) _).mono ?_
                 rintro e w8 ⟨rfl, hB8⟩
                 have hXd := box_kept hB8
                 have hBB := box_below hB8
                 replace hXa := box_still hXa hBB
                 replace hXb := box_still hXb hBB
                 replace HT := Lib.hid (bt2 HT.out hBB)
                 clear hBB hB8
                 rw [HZ.out]
                 go_wp2_with fail
                 go_ret
                 exact ⟨by first | rfl | simp, HT.out⟩)
          · have HS : Hid (addE n0 h0 l0 (negV n1 h1 l1) h1 l1 = .returned (.tuple #[.agg #[.bool false, .int .u64 0, .int .u64 0], .bool false])) := Lib.hid (by rw [sub_shape hp1 lp1 hk0 hk1, ← fitW_no hr])
            clear hr hc
            go_wp2_with fail
            refine (implCompareWide n0 h0 l0 n1 h1 l1 hp0 lp0 lq0 hp1 lp1 lq1 _).mono ?_
            rintro e w2 ⟨rfl, hB2⟩
            obtain ⟨hXa, hXb, hBB, _⟩ := box2 hB2
            replace HT := Lib.hid (bt2 HT.out hBB)
            clear hBB hB2
            rw [HN.out]
            have hca0 : w2.cell? ⟨w1.heap.size, 0, none⟩ = some (.bool n0) := cell_blk hXa 0
            have hca1 : w2.cell? ⟨w1.heap.size, 1, none⟩ = some (.int .u64 h0) := cell_blk hXa 1
            have hca2 : w2.cell? ⟨w1.heap.size, 2, none⟩ = some (.int .u64 l0) := cell_blk hXa 2
            have hlta : w1.heap.size < w2.heap.size := blk_ltW hXa
            have hcb0 : w2.cell? ⟨w1.heap.size + 1, 0, none⟩ = some (.bool n1) := cell_blk hXb 0
            have hcb1 : w2.cell? ⟨w1.heap.size + 1, 1, none⟩ = some (.int .u64 h1) := cell_blk hXb 1
            have hcb2 : w2.cell? ⟨w1.heap.size + 1, 2, none⟩ = some (.int .u64 l1) := cell_blk hXb 2
            have hltb : w1.heap.size + 1 < w2.heap.size := blk_ltW hXb
            go_wp2_with fail
            clear hca0 hca1 hca2 hlta hcb0 hcb1 hcb2 hltb
            refine (specCompareWide n0 h0 l0 n1 h1 l1 hp0 lp0 lq0 hp1 lp1 lq1 _).mono ?_
            rintro e w3 ⟨rfl, hB3⟩
            have hBB := hB3
            replace hXa := box_still hXa hBB
            replace hXb := box_still hXb hBB
            replace HT := Lib.hid (bt2 HT.out hBB)
            clear hBB hB3
            rw [HN.out]
            have hca0 : w3.cell? ⟨w1.heap.size, 0, none⟩ = some (.bool n0) := cell_blk hXa 0
            have hca1 : w3.cell? ⟨w1.heap.size, 1, none⟩ = some (.int .u64 h0) := cell_blk hXa 1
            have hca2 : w3.cell? ⟨w1.heap.size, 2, none⟩ = some (.int .u64 l0) := cell_blk hXa 2
            have hlta : w1.heap.size < w3.heap.size := blk_ltW hXa
            have hcb0 : w3.cell? ⟨w1.heap.size + 1, 0, none⟩ = some (.bool n1) := cell_blk hXb 0
            have hcb1 : w3.cell? ⟨w1.heap.size + 1, 1, none⟩ = some (.int .u64 h1) := cell_blk hXb 1
            have hcb2 : w3.cell? ⟨w1.heap.size + 1, 2, none⟩ = some (.int .u64 l1) := cell_blk hXb 2
            have hltb : w1.heap.size + 1 < w3.heap.size := blk_ltW hXb
            go_wp2_with fail
            clear hca0 hca1 hca2 hlta hcb0 hcb1 hcb2 hltb
            refine (implCompareWide n1 h1 l1 n0 h0 l0 hp1 lp1 lq1 hp0 lp0 lq0 _).mono ?_
            rintro e w4 ⟨rfl, hB4⟩
            have hBB := hB4
            replace hXa := box_still hXa hBB
            replace hXb := box_still hXb hBB
            replace HT := Lib.hid (bt2 HT.out hBB)
            clear hBB hB4
            rw [HM.out]
            have hca0 : w4.cell? ⟨w1.heap.size, 0, none⟩ = some (.bool n0) := cell_blk hXa 0
            have hca1 : w4.cell? ⟨w1.heap.size, 1, none⟩ = some (.int .u64 h0) := cell_blk hXa 1
            have hca2 : w4.cell? ⟨w1.heap.size, 2, none⟩ = some (.int .u64 l0) := cell_blk hXa 2
            have hlta : w1.heap.size < w4.heap.size := blk_ltW hXa
            have hcb0 : w4.cell? ⟨w1.heap.size + 1, 0, none⟩ = some (.bool n1) := cell_blk hXb 0
            have hcb1 : w4.cell? ⟨w1.heap.size + 1, 1, none⟩ = some (.int .u64 h1) := cell_blk hXb 1
            have hcb2 : w4.cell? ⟨w1.heap.size + 1, 2, none⟩ = some (.int .u64 l1) := cell_blk hXb 2
            have hltb : w1.heap.size + 1 < w4.heap.size := blk_ltW hXb
            go_wp2_with fail
            clear hca0 hca1 hca2 hlta hcb0 hcb1 hcb2 hltb
            refine (specWideOk n0 h0 l0 _).mono ?_
            rintro e w5 ⟨rfl, hB5⟩
            have hBB := hB5
            replace hXa := box_still hXa hBB
            replace hXb := box_still hXb hBB
            replace HT := Lib.hid (bt2 HT.out hBB)
            clear hBB hB5
            rw [hk0]
            have hca0 : w5.cell? ⟨w1.heap.size, 0, none⟩ = some (.bool n0) := cell_blk hXa 0
            have hca1 : w5.cell? ⟨w1.heap.size, 1, none⟩ = some (.int .u64 h0) := cell_blk hXa 1
            have hca2 : w5.cell? ⟨w1.heap.size, 2, none⟩ = some (.int .u64 l0) := cell_blk hXa 2
            have hlta : w1.heap.size < w5.heap.size := blk_ltW hXa
            have hcb0 : w5.cell? ⟨w1.heap.size + 1, 0, none⟩ = some (.bool n1) := cell_blk hXb 0
            have hcb1 : w5.cell? ⟨w1.heap.size + 1, 1, none⟩ = some (.int .u64 h1) := cell_blk hXb 1
            have hcb2 : w5.cell? ⟨w1.heap.size + 1, 2, none⟩ = some (.int .u64 l1) := cell_blk hXb 2
            have hltb : w1.heap.size + 1 < w5.heap.size := blk_ltW hXb
            go_wp2_with fail
            clear hca0 hca1 hca2 hlta hcb0 hcb1 hcb2 hltb
            refine (specWideOk n1 h1 l1 _).mono ?_
            rintro e w6 ⟨rfl, hB6⟩
            have hBB := hB6
            replace hXa := box_still hXa hBB
            replace hXb := box_still hXb hBB
            replace HT := Lib.hid (bt2 HT.out hBB)
            clear hBB hB6
            rw [hk1]
            have hca0 : w6.cell? ⟨w1.heap.size, 0, none⟩ = some (.bool n0) := cell_blk hXa 0
            have hca1 : w6.cell? ⟨w1.heap.size, 1, none⟩ = some (.int .u64 h0) := cell_blk hXa 1
            have hca2 : w6.cell? ⟨w1.heap.size, 2, none⟩ = some (.int .u64 l0) := cell_blk hXa 2
            have hlta : w1.heap.size < w6.heap.size := blk_ltW hXa
            have hcb0 : w6.cell? ⟨w1.heap.size + 1, 0, none⟩ = some (.bool n1) := cell_blk hXb 0
            have hcb1 : w6.cell? ⟨w1.heap.size + 1, 1, none⟩ = some (.int .u64 h1) := cell_blk hXb 1
            have hcb2 : w6.cell? ⟨w1.heap.size + 1, 2, none⟩ = some (.int .u64 l1) := cell_blk hXb 2
            have hltb : w1.heap.size + 1 < w6.heap.size := blk_ltW hXb
            go_wp2_with fail
            clear hca0 hca1 hca2 hlta hcb0 hcb1 hcb2 hltb
            refine (implSubWide n0 h0 l0 n1 h1 l1 hp0 hp1 lp0 lq0 lp1 lq1 _).mono ?_
            rintro e w7 ⟨rfl, hB7⟩
            have hBB := hB7
            replace hXa := box_still hXa hBB
            replace hXb := box_still hXb hBB
            replace HT := Lib.hid (bt2 HT.out hBB)
            clear hBB hB7
            rw [HS.out]
            have hca0 : w7.cell? ⟨w1.heap.size, 0, none⟩ = some (.bool n0) := cell_blk hXa 0
            have hca1 : w7.cell? ⟨w1.heap.size, 1, none⟩ = some (.int .u64 h0) := cell_blk hXa 1
            have hca2 : w7.cell? ⟨w1.heap.size, 2, none⟩ = some (.int .u64 l0) := cell_blk hXa 2
            have hlta : w1.heap.size < w7.heap.size := blk_ltW hXa
            have hcb0 : w7.cell? ⟨w1.heap.size + 1, 0, none⟩ = some (.bool n1) := cell_blk hXb 0
            have hcb1 : w7.cell? ⟨w1.heap.size + 1, 1, none⟩ = some (.int .u64 h1) := cell_blk hXb 1
            have hcb2 : w7.cell? ⟨w1.heap.size + 1, 2, none⟩ = some (.int .u64 l1) := cell_blk hXb 2
            have hltb : w1.heap.size + 1 < w7.heap.size := blk_ltW hXb
            go_wp2_with fail
            all_goals first
              | exact (HNE.out ⟨by first | assumption | rfl, by first | assumption | rfl, by first | assumption | rfl⟩).elim
              | (go_ret
                 exact ⟨by first | rfl | simp, HT.out.alloc HT.out.size _⟩)
        · replace hk1 : okV n1 h1 l1 = false := by simpa using hk1
          clear hc
          go_wp2_with fail
          refine (implCompareWide n0 h0 l0 n1 h1 l1 hp0 lp0 lq0 hp1 lp1 lq1 _).mono ?_
          rintro e w2 ⟨rfl, hB2⟩
          obtain ⟨hXa, hXb, hBB, _⟩ := box2 hB2
          replace HT := Lib.hid (bt2 HT.out hBB)
          clear hBB hB2
          rw [HN.out]
          have hca0 : w2.cell? ⟨w1.heap.size, 0, none⟩ = some (.bool n0) := cell_blk hXa 0
          have hca1 : w2.cell? ⟨w1.heap.size, 1, none⟩ = some (.int .u64 h0) := cell_blk hXa 1
          have hca2 : w2.cell? ⟨w1.heap.size, 2, none⟩ = some (.int .u64 l0) := cell_blk hXa 2
          have hlta : w1.heap.size < w2.heap.size := blk_ltW hXa
          have hcb0 : w2.cell? ⟨w1.heap.size + 1, 0, none⟩ = some (.bool n1) := cell_blk hXb 0
          have hcb1 : w2.cell? ⟨w1.heap.size + 1, 1, none⟩ = some (.int .u64 h1) := cell_blk hXb 1
          have hcb2 : w2.cell? ⟨w1.heap.size + 1, 2, none⟩ = some (.int .u64 l1) := cell_blk hXb 2
          have hltb : w1.heap.size + 1 < w2.heap.size := blk_ltW hXb
          go_wp2_with fail
          clear hca0 hca1 hca2 hlta hcb0 hcb1 hcb2 hltb
          refine (specCompareWide n0 h0 l0 n1 h1 l1 hp0 lp0 lq0 hp1 lp1 lq1 _).mono ?_
          rintro e w3 ⟨rfl, hB3⟩
          have hBB := hB3
          replace hXa := box_still hXa hBB
          replace hXb := box_still hXb hBB
          replace HT := Lib.hid (bt2 HT.out hBB)
          clear hBB hB3
          rw [HN.out]
          have hca0 : w3.cell? ⟨w1.heap.size, 0, none⟩ = some (.bool n0) := cell_blk hXa 0
          have hca1 : w3.cell? ⟨w1.heap.size, 1, none⟩ = some (.int .u64 h0) := cell_blk hXa 1
          have hca2 : w3.cell? ⟨w1.heap.size, 2, none⟩ = some (.int .u64 l0) := cell_blk hXa 2
          have hlta : w1.heap.size < w3.heap.size := blk_ltW hXa
          have hcb0 : w3.cell? ⟨w1.heap.size + 1, 0, none⟩ = some (.bool n1) := cell_blk hXb 0
          have hcb1 : w3.cell? ⟨w1.heap.size + 1, 1, none⟩ = some (.int .u64 h1) := cell_blk hXb 1
          have hcb2 : w3.cell? ⟨w1.heap.size + 1, 2, none⟩ = some (.int .u64 l1) := cell_blk hXb 2
          have hltb : w1.heap.size + 1 < w3.heap.size := blk_ltW hXb
          go_wp2_with fail
          clear hca0 hca1 hca2 hlta hcb0 hcb1 hcb2 hltb
          refine (implCompareWide n1 h1 l1 n0 h0 l0 hp1 lp1 lq1 hp0 lp0 lq0 _).mono ?_
          rintro e w4 ⟨rfl, hB4⟩
          have hBB := hB4
          replace hXa := box_still hXa hBB
          replace hXb := box_still hXb hBB
          replace HT := Lib.hid (bt2 HT.out hBB)
          clear hBB hB4
          rw [HM.out]
          have hca0 : w4.cell? ⟨w1.heap.size, 0, none⟩ = some (.bool n0) := cell_blk hXa 0
          have hca1 : w4.cell? ⟨w1.heap.size, 1, none⟩ = some (.int .u64 h0) := cell_blk hXa 1
          have hca2 : w4.cell? ⟨w1.heap.size, 2, none⟩ = some (.int .u64 l0) := cell_blk hXa 2
          have hlta : w1.heap.size < w4.heap.size := blk_ltW hXa
          have hcb0 : w4.cell? ⟨w1.heap.size + 1, 0, none⟩ = some (.bool n1) := cell_blk hXb 0
          have hcb1 : w4.cell? ⟨w1.heap.size + 1, 1, none⟩ = some (.int .u64 h1) := cell_blk hXb 1
          have hcb2 : w4.cell? ⟨w1.heap.size + 1, 2, none⟩ = some (.int .u64 l1) := cell_blk hXb 2
          have hltb : w1.heap.size + 1 < w4.heap.size := blk_ltW hXb
          go_wp2_with fail
          clear hca0 hca1 hca2 hlta hcb0 hcb1 hcb2 hltb
          refine (specWideOk n0 h0 l0 _).mono ?_
          rintro e w5 ⟨rfl, hB5⟩
          have hBB := hB5
          replace hXa := box_still hXa hBB
          replace hXb := box_still hXb hBB
          replace HT := Lib.hid (bt2 HT.out hBB)
          clear hBB hB5
          rw [hk0]
          have hca0 : w5.cell? ⟨w1.heap.size, 0, none⟩ = some (.bool n0) := cell_blk hXa 0
          have hca1 : w5.cell? ⟨w1.heap.size, 1, none⟩ = some (.int .u64 h0) := cell_blk hXa 1
          have hca2 : w5.cell? ⟨w1.heap.size, 2, none⟩ = some (.int .u64 l0) := cell_blk hXa 2
          have hlta : w1.heap.size < w5.heap.size := blk_ltW hXa
          have hcb0 : w5.cell? ⟨w1.heap.size + 1, 0, none⟩ = some (.bool n1) := cell_blk hXb 0
          have hcb1 : w5.cell? ⟨w1.heap.size + 1, 1, none⟩ = some (.int .u64 h1) := cell_blk hXb 1
          have hcb2 : w5.cell? ⟨w1.heap.size + 1, 2, none⟩ = some (.int .u64 l1) := cell_blk hXb 2
          have hltb : w1.heap.size + 1 < w5.heap.size := blk_ltW hXb
          go_wp2_with fail
          clear hca0 hca1 hca2 hlta hcb0 hcb1 hcb2 hltb
          refine (specWideOk n1 h1 l1 _).mono ?_
          rintro e w6 ⟨rfl, hB6⟩
          have hBB := hB6
          replace hXa := box_still hXa hBB
          replace hXb := box_still hXb hBB
          replace HT := Lib.hid (bt2 HT.out hBB)
          clear hBB hB6
          rw [hk1]
          have hca0 : w6.cell? ⟨w1.heap.size, 0, none⟩ = some (.bool n0) := cell_blk hXa 0
          have hca1 : w6.cell? ⟨w1.heap.size, 1, none⟩ = some (.int .u64 h0) := cell_blk hXa 1
          have hca2 : w6.cell? ⟨w1.heap.size, 2, none⟩ = some (.int .u64 l0) := cell_blk hXa 2
          have hlta : w1.heap.size < w6.heap.size := blk_ltW hXa
          have hcb0 : w6.cell? ⟨w1.heap.size + 1, 0, none⟩ = some (.bool n1) := cell_blk hXb 0
          have hcb1 : w6.cell? ⟨w1.heap.size + 1, 1, none⟩ = some (.int .u64 h1) := cell_blk hXb 1
          have hcb2 : w6.cell? ⟨w1.heap.size + 1, 2, none⟩ = some (.int .u64 l1) := cell_blk hXb 2
          have hltb : w1.heap.size + 1 < w6.heap.size := blk_ltW hXb
          go_wp2_with fail
          all_goals (go_ret; exact ⟨by first | rfl | simp, HT.out⟩)
      · replace hk0 : okV n0 h0 l0 = false := by simpa using hk0
        clear hc
        go_wp2_with fail
        refine (implCompareWide n0 h0 l0 n1 h1 l1 hp0 lp0 lq0 hp1 lp1 lq1 _).mono ?_
        rintro e w2 ⟨rfl, hB2⟩
        obtain ⟨hXa, hXb, hBB, _⟩ := box2 hB2
        replace HT := Lib.hid (bt2 HT.out hBB)
        clear hBB hB2
        rw [HN.out]
        have hca0 : w2.cell? ⟨w1.heap.size, 0, none⟩ = some (.bool n0) := cell_blk hXa 0
        have hca1 : w2.cell? ⟨w1.heap.size, 1, none⟩ = some (.int .u64 h0) := cell_blk hXa 1
        have hca2 : w2.cell? ⟨w1.heap.size, 2, none⟩ = some (.int .u64 l0) := cell_blk hXa 2
        have hlta : w1.heap.size < w2.heap.size := blk_ltW hXa
        have hcb0 : w2.cell? ⟨w1.heap.size + 1, 0, none⟩ = some (.bool n1) := cell_blk hXb 0
        have hcb1 : w2.cell? ⟨w1.heap.size + 1, 1, none⟩ = some (.int .u64 h1) := cell_blk hXb 1
        have hcb2 : w2.cell? ⟨w1.heap.size + 1, 2, none⟩ = some (.int .u64 l1) := cell_blk hXb 2
        have hltb : w1.heap.size + 1 < w2.heap.size := blk_ltW hXb
        go_wp2_with fail
        clear hca0 hca1 hca2 hlta hcb0 hcb1 hcb2 hltb
        refine (specCompareWide n0 h0 l0 n1 h1 l1 hp0 lp0 lq0 hp1 lp1 lq1 _).mono ?_
        rintro e w3 ⟨rfl, hB3⟩
        have hBB := hB3
        replace hXa := box_still hXa hBB
        replace hXb := box_still hXb hBB
        replace HT := Lib.hid (bt2 HT.out hBB)
        clear hBB hB3
        rw [HN.out]
        have hca0 : w3.cell? ⟨w1.heap.size, 0, none⟩ = some (.bool n0) := cell_blk hXa 0
        have hca1 : w3.cell? ⟨w1.heap.size, 1, none⟩ = some (.int .u64 h0) := cell_blk hXa 1
        have hca2 : w3.cell? ⟨w1.heap.size, 2, none⟩ = some (.int .u64 l0) := cell_blk hXa 2
        have hlta : w1.heap.size < w3.heap.size := blk_ltW hXa
        have hcb0 : w3.cell? ⟨w1.heap.size + 1, 0, none⟩ = some (.bool n1) := cell_blk hXb 0
        have hcb1 : w3.cell? ⟨w1.heap.size + 1, 1, none⟩ = some (.int .u64 h1) := cell_blk hXb 1
        have hcb2 : w3.cell? ⟨w1.heap.size + 1, 2, none⟩ = some (.int .u64 l1) := cell_blk hXb 2
        have hltb : w1.heap.size + 1 < w3.heap.size := blk_ltW hXb
        go_wp2_with fail
        clear hca0 hca1 hca2 hlta hcb0 hcb1 hcb2 hltb
        refine (implCompareWide n1 h1 l1 n0 h0 l0 hp1 lp1 lq1 hp0 lp0 lq0 _).mono ?_
        rintro e w4 ⟨rfl, hB4⟩
        have hBB := hB4
        replace hXa := box_still hXa hBB
        replace hXb := box_still hXb hBB
        replace HT := Lib.hid (bt2 HT.out hBB)
        clear hBB hB4
        rw [HM.out]
        have hca0 : w4.cell? ⟨w1.heap.size, 0, none⟩ = some (.bool n0) := cell_blk hXa 0
        have hca1 : w4.cell? ⟨w1.heap.size, 1, none⟩ = some (.int .u64 h0) := cell_blk hXa 1
        have hca2 : w4.cell? ⟨w1.heap.size, 2, none⟩ = some (.int .u64 l0) := cell_blk hXa 2
        have hlta : w1.heap.size < w4.heap.size := blk_ltW hXa
        have hcb0 : w4.cell? ⟨w1.heap.size + 1, 0, none⟩ = some (.bool n1) := cell_blk hXb 0
        have hcb1 : w4.cell? ⟨w1.heap.size + 1, 1, none⟩ = some (.int .u64 h1) := cell_blk hXb 1
        have hcb2 : w4.cell? ⟨w1.heap.size + 1, 2, none⟩ = some (.int .u64 l1) := cell_blk hXb 2
        have hltb : w1.heap.size + 1 < w4.heap.size := blk_ltW hXb
        go_wp2_with fail
        clear hca0 hca1 hca2 hlta hcb0 hcb1 hcb2 hltb
        refine (specWideOk n0 h0 l0 _).mono ?_
        rintro e w5 ⟨rfl, hB5⟩
        have hBB := hB5
        replace hXa := box_still hXa hBB
        replace hXb := box_still hXb hBB
        replace HT := Lib.hid (bt2 HT.out hBB)
        clear hBB hB5
        rw [hk0]
        have hca0 : w5.cell? ⟨w1.heap.size, 0, none⟩ = some (.bool n0) := cell_blk hXa 0
        have hca1 : w5.cell? ⟨w1.heap.size, 1, none⟩ = some (.int .u64 h0) := cell_blk hXa 1
        have hca2 : w5.cell? ⟨w1.heap.size, 2, none⟩ = some (.int .u64 l0) := cell_blk hXa 2
        have hlta : w1.heap.size < w5.heap.size := blk_ltW hXa
        have hcb0 : w5.cell? ⟨w1.heap.size + 1, 0, none⟩ = some (.bool n1) := cell_blk hXb 0
        have hcb1 : w5.cell? ⟨w1.heap.size + 1, 1, none⟩ = some (.int .u64 h1) := cell_blk hXb 1
        have hcb2 : w5.cell? ⟨w1.heap.size + 1, 2, none⟩ = some (.int .u64 l1) := cell_blk hXb 2
        have hltb : w1.heap.size + 1 < w5.heap.size := blk_ltW hXb
        go_wp2_with fail
        all_goals (go_ret; exact ⟨by first | rfl | simp, HT.out⟩)
    · skip
      have HN : Hid (cmpV n0 h0 l0 n1 h1 l1 = 0) := Lib.hid (cmpV_eq hc)
      have HM : Hid (cmpV n1 h1 l1 n0 h0 l0 = 0) := Lib.hid (cmpV_eq hc.symm)
      by_cases hk0 : okV n0 h0 l0 = true
      · by_cases hk1 : okV n1 h1 l1 = true
        · obtain ⟨rfl, rfl, rfl⟩ := parts_eq hp0 lp0 lq0 hp1 lp1 lq1 hk0 hk1 hc
          obtain ⟨n2, h2, l2, hZ⟩ : ∃ (n : Bool) (h l : Int), wideC 0 = .agg #[.bool n, .int .u64 h, .int .u64 l] := ⟨_, _, _, rfl⟩
          have hr0 : RoomW 0 := by unfold RoomW; omega
          have HS : Hid (addE n0 h0 l0 (negV n0 h0 l0) h0 l0 = .returned (.tuple #[.agg #[.bool n2, .int .u64 h2, .int .u64 l2], .bool true])) := Lib.hid (by rw [sub_shape hp0 lp0 hk0 hk0, Int.sub_self, fitW_in hr0, hZ])
          have HZ : Hid (cmpV n2 h2 l2 false 0 0 = 0) := Lib.hid (by rw [cmp_zero hr0 hZ]; simp)
          have q2 := wideC_bounds hZ
          clear hZ hr0 hc hk1
          go_wp2_with fail
          refine (implCompareWide n0 h0 l0 n0 h0 l0 hp0 lp0 lq0 hp0 lp0 lq0 _).mono ?_
          rintro e w2 ⟨rfl, hB2⟩
          obtain ⟨hXa, hXb, hBB, _⟩ := box2 hB2
          replace HT := Lib.hid (bt2 HT.out hBB)
          clear hBB hB2
          rw [HN.out]
          have hca0 : w2.cell? ⟨w1.heap.size, 0, none⟩ = some (.bool n0) := cell_blk hXa 0
          have hca1 : w2.cell? ⟨w1.heap.size, 1, none⟩ = some (.int .u64 h0) := cell_blk hXa 1
          have hca2 : w2.cell? ⟨w1.heap.size, 2, none⟩ = some (.int .u64 l0) := cell_blk hXa 2
          have hlta : w1.heap.size < w2.heap.size := blk_ltW hXa
          have hcb0 : w2.cell? ⟨w1.heap.size + 1, 0, none⟩ = some (.bool n0) := cell_blk hXb 0
          have hcb1 : w2.cell? ⟨w1.heap.size + 1, 1, none⟩ = some (.int .u64 h0) := cell_blk hXb 1
          have hcb2 : w2.cell? ⟨w1.heap.size + 1, 2, none⟩ = some (.int .u64 l0) := cell_blk hXb 2
          have hltb : w1.heap.size + 1 < w2.heap.size := blk_ltW hXb
          go_wp2_with fail
          clear hca0 hca1 hca2 hlta hcb0 hcb1 hcb2 hltb
          refine (specCompareWide n0 h0 l0 n0 h0 l0 hp0 lp0 lq0 hp0 lp0 lq0 _).mono ?_
          rintro e w3 ⟨rfl, hB3⟩
          have hBB := hB3
          replace hXa := box_still hXa hBB
          replace hXb := box_still hXb hBB
          replace HT := Lib.hid (bt2 HT.out hBB)
          clear hBB hB3
          rw [HN.out]
          have hca0 : w3.cell? ⟨w1.heap.size, 0, none⟩ = some (.bool n0) := cell_blk hXa 0
          have hca1 : w3.cell? ⟨w1.heap.size, 1, none⟩ = some (.int .u64 h0) := cell_blk hXa 1
          have hca2 : w3.cell? ⟨w1.heap.size, 2, none⟩ = some (.int .u64 l0) := cell_blk hXa 2
          have hlta : w1.heap.size < w3.heap.size := blk_ltW hXa
          have hcb0 : w3.cell? ⟨w1.heap.size + 1, 0, none⟩ = some (.bool n0) := cell_blk hXb 0
          have hcb1 : w3.cell? ⟨w1.heap.size + 1, 1, none⟩ = some (.int .u64 h0) := cell_blk hXb 1
          have hcb2 : w3.cell? ⟨w1.heap.size + 1, 2, none⟩ = some (.int .u64 l0) := cell_blk hXb 2
          have hltb : w1.heap.size + 1 < w3.heap.size := blk_ltW hXb
          go_wp2_with fail
          clear hca0 hca1 hca2 hlta hcb0 hcb1 hcb2 hltb
          refine (implCompareWide n0 h0 l0 n0 h0 l0 hp0 lp0 lq0 hp0 lp0 lq0 _).mono ?_
          rintro e w4 ⟨rfl, hB4⟩
          have hBB := hB4
          replace hXa := box_still hXa hBB
          replace hXb := box_still hXb hBB
          replace HT := Lib.hid (bt2 HT.out hBB)
          clear hBB hB4
          rw [HM.out]
          have hca0 : w4.cell? ⟨w1.heap.size, 0, none⟩ = some (.bool n0) := cell_blk hXa 0
          have hca1 : w4.cell? ⟨w1.heap.size, 1, none⟩ = some (.int .u64 h0) := cell_blk hXa 1
          have hca2 : w4.cell? ⟨w1.heap.size, 2, none⟩ = some (.int .u64 l0) := cell_blk hXa 2
          have hlta : w1.heap.size < w4.heap.size := blk_ltW hXa
          have hcb0 : w4.cell? ⟨w1.heap.size + 1, 0, none⟩ = some (.bool n0) := cell_blk hXb 0
          have hcb1 : w4.cell? ⟨w1.heap.size + 1, 1, none⟩ = some (.int .u64 h0) := cell_blk hXb 1
          have hcb2 : w4.cell? ⟨w1.heap.size + 1, 2, none⟩ = some (.int .u64 l0) := cell_blk hXb 2
          have hltb : w1.heap.size + 1 < w4.heap.size := blk_ltW hXb
          go_wp2_with fail
          clear hca0 hca1 hca2 hlta hcb0 hcb1 hcb2 hltb
          refine (specWideOk n0 h0 l0 _).mono ?_
          rintro e w5 ⟨rfl, hB5⟩
          have hBB := hB5
          replace hXa := box_still hXa hBB
          replace hXb := box_still hXb hBB
          replace HT := Lib.hid (bt2 HT.out hBB)
          clear hBB hB5
          rw [hk0]
          have hca0 : w5.cell? ⟨w1.heap.size, 0, none⟩ = some (.bool n0) := cell_blk hXa 0
          have hca1 : w5.cell? ⟨w1.heap.size, 1, none⟩ = some (.int .u64 h0) := cell_blk hXa 1
          have hca2 : w5.cell? ⟨w1.heap.size, 2, none⟩ = some (.int .u64 l0) := cell_blk hXa 2
          have hlta : w1.heap.size < w5.heap.size := blk_ltW hXa
          have hcb0 : w5.cell? ⟨w1.heap.size + 1, 0, none⟩ = some (.bool n0) := cell_blk hXb 0
          have hcb1 : w5.cell? ⟨w1.heap.size + 1, 1, none⟩ = some (.int .u64 h0) := cell_blk hXb 1
          have hcb2 : w5.cell? ⟨w1.heap.size + 1, 2, none⟩ = some (.int .u64 l0) := cell_blk hXb 2
          have hltb : w1.heap.size + 1 < w5.heap.size := blk_ltW hXb
          go_wp2_with fail
          clear hca0 hca1 hca2 hlta hcb0 hcb1 hcb2 hltb
          refine (specWideOk n0 h0 l0 _).mono ?_
          rintro e w6 ⟨rfl, hB6⟩
          have hBB := hB6
          replace hXa := box_still hXa hBB
          replace hXb := box_still hXb hBB
          replace HT := Lib.hid (bt2 HT.out hBB)
          clear hBB hB6
          rw [hk0]
          have hca0 : w6.cell? ⟨w1.heap.size, 0, none⟩ = some (.bool n0) := cell_blk hXa 0
          have hca1 : w6.cell? ⟨w1.heap.size, 1, none⟩ = some (.int .u64 h0) := cell_blk hXa 1
          have hca2 : w6.cell? ⟨w1.heap.size, 2, none⟩ = some (.int .u64 l0) := cell_blk hXa 2
          have hlta : w1.heap.size < w6.heap.size := blk_ltW hXa
          have hcb0 : w6.cell? ⟨w1.heap.size + 1, 0, none⟩ = some (.bool n0) := cell_blk hXb 0
          have hcb1 : w6.cell? ⟨w1.heap.size + 1, 1, none⟩ = some (.int .u64 h0) := cell_blk hXb 1
          have hcb2 : w6.cell? ⟨w1.heap.size + 1, 2, none⟩ = some (.int .u64 l0) := cell_blk hXb 2
          have hltb : w1.heap.size + 1 < w6.heap.size := blk_ltW hXb
          go_wp2_with fail
          clear hca0 hca1 hca2 hlta hcb0 hcb1 hcb2 hltb
          refine (implSubWide n0 h0 l0 n0 h0 l0 hp0 hp0 lp0 lq0 lp0 lq0 _).mono ?_
          rintro e w7 ⟨rfl, hB7⟩
          have hBB := hB7
          replace hXa := box_still hXa hBB
          replace hXb := box_still hXb hBB
          replace HT := Lib.hid (bt2 HT.out hBB)
          clear hBB hB7
          rw [HS.out]
          have hca0 : w7.cell? ⟨w1.heap.size, 0, none⟩ = some (.bool n0) := cell_blk hXa 0
          have hca1 : w7.cell? ⟨w1.heap.size, 1, none⟩ = some (.int .u64 h0) := cell_blk hXa 1
          have hca2 : w7.cell? ⟨w1.heap.size, 2, none⟩ = some (.int .u64 l0) := cell_blk hXa 2
          have hlta : w1.heap.size < w7.heap.size := blk_ltW hXa
          have hcb0 : w7.cell? ⟨w1.heap.size + 1, 0, none⟩ = some (.bool n0) := cell_blk hXb 0
          have hcb1 : w7.cell? ⟨w1.heap.size + 1, 1, none⟩ = some (.int .u64 h0) := cell_blk hXb 1
          have hcb2 : w7.cell? ⟨w1.heap.size + 1, 2, none⟩ = some (.int .u64 l0) := cell_blk hXb 2
          have hltb : w1.heap.size + 1 < w7.heap.size := blk_ltW hXb
          go_wp2_with fail
          refine (implCompareWide n2 h2 l2 false 0 0 q2.1 q2.2.1 q2.2.2.1 (by omega) (by omega) (by omega) _).mono ?_
          rintro e w8 ⟨rfl, hB8⟩
          have hXd := box_kept hB8
          have hBB := box_below hB8
          replace hXa := box_still hXa hBB
          replace hXb := box_still hXb hBB
          replace HT := Lib.hid (bt2 HT.out hBB)
          clear hBB hB8
          rw [HZ.out]
          go_wp2_with fail
          go_ret
          exact ⟨by first | rfl | simp, HT.out⟩
        · replace hk1 : okV n1 h1 l1 = false := by simpa using hk1
          clear hc
          go_wp2_with fail
          refine (implCompareWide n0 h0 l0 n1 h1 l1 hp0 lp0 lq0 hp1 lp1 lq1 _).mono ?_
          rintro e w2 ⟨rfl, hB2⟩
          obtain ⟨hXa, hXb, hBB, _⟩ := box2 hB2
          replace HT := Lib.hid (bt2 HT.out hBB)
          clear hBB hB2
          rw [HN.out]
          have hca0 : w2.cell? ⟨w1.heap.size, 0, none⟩ = some (.bool n0) := cell_blk hXa 0
          have hca1 : w2.cell? ⟨w1.heap.size, 1, none⟩ = some (.int .u64 h0) := cell_blk hXa 1
          have hca2 : w2.cell? ⟨w1.heap.size, 2, none⟩ = some (.int .u64 l0) := cell_blk hXa 2
          have hlta : w1.heap.size < w2.heap.size := blk_ltW hXa
          have hcb0 : w2.cell? ⟨w1.heap.size + 1, 0, none⟩ = some (.bool n1) := cell_blk hXb 0
          have hcb1 : w2.cell? ⟨w1.heap.size + 1, 1, none⟩ = some (.int .u64 h1) := cell_blk hXb 1
          have hcb2 : w2.cell? ⟨w1.heap.size + 1, 2, none⟩ = some (.int .u64 l1) := cell_blk hXb 2
          have hltb : w1.heap.size + 1 < w2.heap.size := blk_ltW hXb
          go_wp2_with fail
          clear hca0 hca1 hca2 hlta hcb0 hcb1 hcb2 hltb
          refine (specCompareWide n0 h0 l0 n1 h1 l1 hp0 lp0 lq0 hp1 lp1 lq1 _).mono ?_
          rintro e w3 ⟨rfl, hB3⟩
          have hBB := hB3
          replace hXa := box_still hXa hBB
          replace hXb := box_still hXb hBB
          replace HT := Lib.hid (bt2 HT.out hBB)
          clear hBB hB3
          rw [HN.out]
          have hca0 : w3.cell? ⟨w1.heap.size, 0, none⟩ = some (.bool n0) := cell_blk hXa 0
          have hca1 : w3.cell? ⟨w1.heap.size, 1, none⟩ = some (.int .u64 h0) := cell_blk hXa 1
          have hca2 : w3.cell? ⟨w1.heap.size, 2, none⟩ = some (.int .u64 l0) := cell_blk hXa 2
          have hlta : w1.heap.size < w3.heap.size := blk_ltW hXa
          have hcb0 : w3.cell? ⟨w1.heap.size + 1, 0, none⟩ = some (.bool n1) := cell_blk hXb 0
          have hcb1 : w3.cell? ⟨w1.heap.size + 1, 1, none⟩ = some (.int .u64 h1) := cell_blk hXb 1
          have hcb2 : w3.cell? ⟨w1.heap.size + 1, 2, none⟩ = some (.int .u64 l1) := cell_blk hXb 2
          have hltb : w1.heap.size + 1 < w3.heap.size := blk_ltW hXb
          go_wp2_with fail
          clear hca0 hca1 hca2 hlta hcb0 hcb1 hcb2 hltb
          refine (implCompareWide n1 h1 l1 n0 h0 l0 hp1 lp1 lq1 hp0 lp0 lq0 _).mono ?_
          rintro e w4 ⟨rfl, hB4⟩
          have hBB := hB4
          replace hXa := box_still hXa hBB
          replace hXb := box_still hXb hBB
          replace HT := Lib.hid (bt2 HT.out hBB)
          clear hBB hB4
          rw [HM.out]
          have hca0 : w4.cell? ⟨w1.heap.size, 0, none⟩ = some (.bool n0) := cell_blk hXa 0
          have hca1 : w4.cell? ⟨w1.heap.size, 1, none⟩ = some (.int .u64 h0) := cell_blk hXa 1
          have hca2 : w4.cell? ⟨w1.heap.size, 2, none⟩ = some (.int .u64 l0) := cell_blk hXa 2
          have hlta : w1.heap.size < w4.heap.size := blk_ltW hXa
          have hcb0 : w4.cell? ⟨w1.heap.size + 1, 0, none⟩ = some (.bool n1) := cell_blk hXb 0
          have hcb1 : w4.cell? ⟨w1.heap.size + 1, 1, none⟩ = some (.int .u64 h1) := cell_blk hXb 1
          have hcb2 : w4.cell? ⟨w1.heap.size + 1, 2, none⟩ = some (.int .u64 l1) := cell_blk hXb 2
          have hltb : w1.heap.size + 1 < w4.heap.size := blk_ltW hXb
          go_wp2_with fail
          clear hca0 hca1 hca2 hlta hcb0 hcb1 hcb2 hltb
          refine (specWideOk n0 h0 l0 _).mono ?_
          rintro e w5 ⟨rfl, hB5⟩
          have hBB := hB5
          replace hXa := box_still hXa hBB
          replace hXb := box_still hXb hBB
          replace HT := Lib.hid (bt2 HT.out hBB)
          clear hBB hB5
          rw [hk0]
          have hca0 : w5.cell? ⟨w1.heap.size, 0, none⟩ = some (.bool n0) := cell_blk hXa 0
          have hca1 : w5.cell? ⟨w1.heap.size, 1, none⟩ = some (.int .u64 h0) := cell_blk hXa 1
          have hca2 : w5.cell? ⟨w1.heap.size, 2, none⟩ = some (.int .u64 l0) := cell_blk hXa 2
          have hlta : w1.heap.size < w5.heap.size := blk_ltW hXa
          have hcb0 : w5.cell? ⟨w1.heap.size + 1, 0, none⟩ = some (.bool n1) := cell_blk hXb 0
          have hcb1 : w5.cell? ⟨w1.heap.size + 1, 1, none⟩ = some (.int .u64 h1) := cell_blk hXb 1
          have hcb2 : w5.cell? ⟨w1.heap.size + 1, 2, none⟩ = some (.int .u64 l1) := cell_blk hXb 2
          have hltb : w1.heap.size + 1 < w5.heap.size := blk_ltW hXb
          go_wp2_with fail
          clear hca0 hca1 hca2 hlta hcb0 hcb1 hcb2 hltb
          refine (specWideOk n1 h1 l1 _).mono ?_
          rintro e w6 ⟨rfl, hB6⟩
          have hBB := hB6
          replace hXa := box_still hXa hBB
          replace hXb := box_still hXb hBB
          replace HT := Lib.hid (bt2 HT.out hBB)
          clear hBB hB6
          rw [hk1]
          have hca0 : w6.cell? ⟨w1.heap.size, 0, none⟩ = some (.bool n0) := cell_blk hXa 0
          have hca1 : w6.cell? ⟨w1.heap.size, 1, none⟩ = some (.int .u64 h0) := cell_blk hXa 1
          have hca2 : w6.cell? ⟨w1.heap.size, 2, none⟩ = some (.int .u64 l0) := cell_blk hXa 2
          have hlta : w1.heap.size < w6.heap.size := blk_ltW hXa
          have hcb0 : w6.cell? ⟨w1.heap.size + 1, 0, none⟩ = some (.bool n1) := cell_blk hXb 0
          have hcb1 : w6.cell? ⟨w1.heap.size + 1, 1, none⟩ = some (.int .u64 h1) := cell_blk hXb 1
          have hcb2 : w6.cell? ⟨w1.heap.size + 1, 2, none⟩ = some (.int .u64 l1) := cell_blk hXb 2
          have hltb : w1.heap.size + 1 < w6.heap.size := blk_ltW hXb
          go_wp2_with fail
          all_goals (go_ret; exact ⟨by first | rfl | simp, HT.out⟩)
      · replace hk0 : okV n0 h0 l0 = false := by simpa using hk0
        clear hc
        go_wp2_with fail
        refine (implCompareWide n0 h0 l0 n1 h1 l1 hp0 lp0 lq0 hp1 lp1 lq1 _).mono ?_
        rintro e w2 ⟨rfl, hB2⟩
        obtain ⟨hXa, hXb, hBB, _⟩ := box2 hB2
        replace HT := Lib.hid (bt2 HT.out hBB)
        clear hBB hB2
        rw [HN.out]
        have hca0 : w2.cell? ⟨w1.heap.size, 0, none⟩ = some (.bool n0) := cell_blk hXa 0
        have hca1 : w2.cell? ⟨w1.heap.size, 1, none⟩ = some (.int .u64 h0) := cell_blk hXa 1
        have hca2 : w2.cell? ⟨w1.heap.size, 2, none⟩ = some (.int .u64 l0) := cell_blk hXa 2
        have hlta : w1.heap.size < w2.heap.size := blk_ltW hXa
        have hcb0 : w2.cell? ⟨w1.heap.size + 1, 0, none⟩ = some (.bool n1) := cell_blk hXb 0
        have hcb1 : w2.cell? ⟨w1.heap.size + 1, 1, none⟩ = some (.int .u64 h1) := cell_blk hXb 1
        have hcb2 : w2.cell? ⟨w1.heap.size + 1, 2, none⟩ = some (.int .u64 l1) := cell_blk hXb 2
        have hltb : w1.heap.size + 1 < w2.heap.size := blk_ltW hXb
        go_wp2_with fail
        clear hca0 hca1 hca2 hlta hcb0 hcb1 hcb2 hltb
        refine (specCompareWide n0 h0 l0 n1 h1 l1 hp0 lp0 lq0 hp1 lp1 lq1 _).mono ?_
        rintro e w3 ⟨rfl, hB3⟩
        have hBB := hB3
        replace hXa := box_still hXa hBB
        replace hXb := box_still hXb hBB
        replace HT := Lib.hid (bt2 HT.out hBB)
        clear hBB hB3
        rw [HN.out]
        have hca0 : w3.cell? ⟨w1.heap.size, 0, none⟩ = some (.bool n0) := cell_blk hXa 0
        have hca1 : w3.cell? ⟨w1.heap.size, 1, none⟩ = some (.int .u64 h0) := cell_blk hXa 1
        have hca2 : w3.cell? ⟨w1.heap.size, 2, none⟩ = some (.int .u64 l0) := cell_blk hXa 2
        have hlta : w1.heap.size < w3.heap.size := blk_ltW hXa
        have hcb0 : w3.cell? ⟨w1.heap.size + 1, 0, none⟩ = some (.bool n1) := cell_blk hXb 0
        have hcb1 : w3.cell? ⟨w1.heap.size + 1, 1, none⟩ = some (.int .u64 h1) := cell_blk hXb 1
        have hcb2 : w3.cell? ⟨w1.heap.size + 1, 2, none⟩ = some (.int .u64 l1) := cell_blk hXb 2
        have hltb : w1.heap.size + 1 < w3.heap.size := blk_ltW hXb
        go_wp2_with fail
        clear hca0 hca1 hca2 hlta hcb0 hcb1 hcb2 hltb
        refine (implCompareWide n1 h1 l1 n0 h0 l0 hp1 lp1 lq1 hp0 lp0 lq0 _).mono ?_
        rintro e w4 ⟨rfl, hB4⟩
        have hBB := hB4
        replace hXa := box_still hXa hBB
        replace hXb := box_still hXb hBB
        replace HT := Lib.hid (bt2 HT.out hBB)
        clear hBB hB4
        rw [HM.out]
        have hca0 : w4.cell? ⟨w1.heap.size, 0, none⟩ = some (.bool n0) := cell_blk hXa 0
        have hca1 : w4.cell? ⟨w1.heap.size, 1, none⟩ = some (.int .u64 h0) := cell_blk hXa 1
        have hca2 : w4.cell? ⟨w1.heap.size, 2, none⟩ = some (.int .u64 l0) := cell_blk hXa 2
        have hlta : w1.heap.size < w4.heap.size := blk_ltW hXa
        have hcb0 : w4.cell? ⟨w1.heap.size + 1, 0, none⟩ = some (.bool n1) := cell_blk hXb 0
        have hcb1 : w4.cell? ⟨w1.heap.size + 1, 1, none⟩ = some (.int .u64 h1) := cell_blk hXb 1
        have hcb2 : w4.cell? ⟨w1.heap.size + 1, 2, none⟩ = some (.int .u64 l1) := cell_blk hXb 2
        have hltb : w1.heap.size + 1 < w4.heap.size := blk_ltW hXb
        go_wp2_with fail
        clear hca0 hca1 hca2 hlta hcb0 hcb1 hcb2 hltb
        refine (specWideOk n0 h0 l0 _).mono ?_
        rintro e w5 ⟨rfl, hB5⟩
        have hBB := hB5
        replace hXa := box_still hXa hBB
        replace hXb := box_still hXb hBB
        replace HT := Lib.hid (bt2 HT.out hBB)
        clear hBB hB5
        rw [hk0]
        have hca0 : w5.cell? ⟨w1.heap.size, 0, none⟩ = some (.bool n0) := cell_blk hXa 0
        have hca1 : w5.cell? ⟨w1.heap.size, 1, none⟩ = some (.int .u64 h0) := cell_blk hXa 1
        have hca2 : w5.cell? ⟨w1.heap.size, 2, none⟩ = some (.int .u64 l0) := cell_blk hXa 2
        have hlta : w1.heap.size < w5.heap.size := blk_ltW hXa
        have hcb0 : w5.cell? ⟨w1.heap.size + 1, 0, none⟩ = some (.bool n1) := cell_blk hXb 0
        have hcb1 : w5.cell? ⟨w1.heap.size + 1, 1, none⟩ = some (.int .u64 h1) := cell_blk hXb 1
        have hcb2 : w5.cell? ⟨w1.heap.size + 1, 2, none⟩ = some (.int .u64 l1) := cell_blk hXb 2
        have hltb : w1.heap.size + 1 < w5.heap.size := blk_ltW hXb
        go_wp2_with fail
        all_goals (go_ret; exact ⟨by first | rfl | simp, HT.out⟩)
    · skip
      have HN : Hid (cmpV n0 h0 l0 n1 h1 l1 = 1) := Lib.hid (cmpV_gt hc)
      have HM : Hid (cmpV n1 h1 l1 n0 h0 l0 = -1) := Lib.hid (cmpV_lt hc)
      by_cases hk0 : okV n0 h0 l0 = true
      · by_cases hk1 : okV n1 h1 l1 = true
        · have hne : ¬ (n0 = n1 ∧ h0 = h1 ∧ l0 = l1) := by rintro ⟨rfl, rfl, rfl⟩; omega
          have HNE := Lib.hid hne
          clear hne
          by_cases hr : RoomW (sv n0 (h0 * 18446744073709551616 + l0) - sv n1 (h1 * 18446744073709551616 + l1))
          · obtain ⟨n2, h2, l2, hZ⟩ : ∃ (n : Bool) (h l : Int), wideC (sv n0 (h0 * 18446744073709551616 + l0) - sv n1 (h1 * 18446744073709551616 + l1)) = .agg #[.bool n, .int .u64 h, .int .u64 l] := ⟨_, _, _, rfl⟩
            have HS : Hid (addE n0 h0 l0 (negV n1 h1 l1) h1 l1 = .returned (.tuple #[.agg #[.bool n2, .int .u64 h2, .int .u64 l2], .bool true])) := Lib.hid (by rw [sub_shape hp1 lp1 hk0 hk1, fitW_in hr, hZ])
            have HZ : Hid (cmpV n2 h2 l2 false 0 0 = 1) := Lib.hid (by rw [cmp_zero hr hZ]; rw [if_neg (by omega), if_pos (by omega)])
            have q2 := wideC_bounds hZ
            clear hZ hr hc
            go_wp2_with fail
            refine (implCompareWide n0 h0 l0 n1 h1 l1 hp0 lp0 lq0 hp1 lp1 lq1 _).mono ?_
            rintro e w2 ⟨rfl, hB2⟩
            obtain ⟨hXa, hXb, hBB, _⟩ := box2 hB2
            replace HT := Lib.hid (bt2 HT.out hBB)
            clear hBB hB2
            rw [HN.out]
            have hca0 : w2.cell? ⟨w1.heap.size, 0, none⟩ = some (.bool n0) := cell_blk hXa 0
            have hca1 : w2.cell? ⟨w1.heap.size, 1, none⟩ = some (.int .u64 h0) := cell_blk hXa 1
            have hca2 : w2.cell? ⟨w1.heap.size, 2, none⟩ = some (.int .u64 l0) := cell_blk hXa 2
            have hlta : w1.heap.size < w2.heap.size := blk_ltW hXa
            have hcb0 : w2.cell? ⟨w1.heap.size + 1, 0, none⟩ = some (.bool n1) := cell_blk hXb 0
            have hcb1 : w2.cell? ⟨w1.heap.size + 1, 1, none⟩ = some (.int .u64 h1) := cell_blk hXb 1
            have hcb2 : w2.cell? ⟨w1.heap.size + 1, 2, none⟩ = some (.int .u64 l1) := cell_blk hXb 2
            have hltb : w1.heap.size + 1 < w2.heap.size := blk_ltW hXb
            go_wp2_with fail
            clear hca0 hca1 hca2 hlta hcb0 hcb1 hcb2 hltb
            refine (specCompareWide n0 h0 l0 n1 h1 l1 hp0 lp0 lq0 hp1 lp1 lq1 _).mono ?_
            rintro e w3 ⟨rfl, hB3⟩
            have hBB := hB3
            replace hXa := box_still hXa hBB
            replace hXb := box_still hXb hBB
            replace HT := Lib.hid (bt2 HT.out hBB)
            clear hBB hB3
            rw [HN.out]
            have hca0 : w3.cell? ⟨w1.heap.size, 0, none⟩ = some (.bool n0) := cell_blk hXa 0
            have hca1 : w3.cell? ⟨w1.heap.size, 1, none⟩ = some (.int .u64 h0) := cell_blk hXa 1
            have hca2 : w3.cell? ⟨w1.heap.size, 2, none⟩ = some (.int .u64 l0) := cell_blk hXa 2
            have hlta : w1.heap.size < w3.heap.size := blk_ltW hXa
            have hcb0 : w3.cell? ⟨w1.heap.size + 1, 0, none⟩ = some (.bool n1) := cell_blk hXb 0
            have hcb1 : w3.cell? ⟨w1.heap.size + 1, 1, none⟩ = some (.int .u64 h1) := cell_blk hXb 1
            have hcb2 : w3.cell? ⟨w1.heap.size + 1, 2, none⟩ = some (.int .u64 l1) := cell_blk hXb 2
            have hltb : w1.heap.size + 1 < w3.heap.size := blk_ltW hXb
            go_wp2_with fail
            clear hca0 hca1 hca2 hlta hcb0 hcb1 hcb2 hltb
            refine (implCompareWide n1 h1 l1 n0 h0 l0 hp1 lp1 lq1 hp0 lp0 lq0 _).mono ?_
            rintro e w4 ⟨rfl, hB4⟩
            have hBB := hB4
            replace hXa := box_still hXa hBB
            replace hXb := box_still hXb hBB
            replace HT := Lib.hid (bt2 HT.out hBB)
            clear hBB hB4
            rw [HM.out]
            have hca0 : w4.cell? ⟨w1.heap.size, 0, none⟩ = some (.bool n0) := cell_blk hXa 0
            have hca1 : w4.cell? ⟨w1.heap.size, 1, none⟩ = some (.int .u64 h0) := cell_blk hXa 1
            have hca2 : w4.cell? ⟨w1.heap.size, 2, none⟩ = some (.int .u64 l0) := cell_blk hXa 2
            have hlta : w1.heap.size < w4.heap.size := blk_ltW hXa
            have hcb0 : w4.cell? ⟨w1.heap.size + 1, 0, none⟩ = some (.bool n1) := cell_blk hXb 0
            have hcb1 : w4.cell? ⟨w1.heap.size + 1, 1, none⟩ = some (.int .u64 h1) := cell_blk hXb 1
            have hcb2 : w4.cell? ⟨w1.heap.size + 1, 2, none⟩ = some (.int .u64 l1) := cell_blk hXb 2
            have hltb : w1.heap.size + 1 < w4.heap.size := blk_ltW hXb
            go_wp2_with fail
            clear hca0 hca1 hca2 hlta hcb0 hcb1 hcb2 hltb
            refine (specWideOk n0 h0 l0 _).mono ?_
            rintro e w5 ⟨rfl, hB5⟩
            have hBB := hB5
            replace hXa := box_still hXa hBB
            replace hXb := box_still hXb hBB
            replace HT := Lib.hid (bt2 HT.out hBB)
            clear hBB hB5
            rw [hk0]
            have hca0 : w5.cell? ⟨w1.heap.size, 0, none⟩ = some (.bool n0) := cell_blk hXa 0
            have hca1 : w5.cell? ⟨w1.heap.size, 1, none⟩ = some (.int .u64 h0) := cell_blk hXa 1
            have hca2 : w5.cell? ⟨w1.heap.size, 2, none⟩ = some (.int .u64 l0) := cell_blk hXa 2
            have hlta : w1.heap.size < w5.heap.size := blk_ltW hXa
            have hcb0 : w5.cell? ⟨w1.heap.size + 1, 0, none⟩ = some (.bool n1) := cell_blk hXb 0
            have hcb1 : w5.cell? ⟨w1.heap.size + 1, 1, none⟩ = some (.int .u64 h1) := cell_blk hXb 1
            have hcb2 : w5.cell? ⟨w1.heap.size + 1, 2, none⟩ = some (.int .u64 l1) := cell_blk hXb 2
            have hltb : w1.heap.size + 1 < w5.heap.size := blk_ltW hXb
            go_wp2_with fail
            clear hca0 hca1 hca2 hlta hcb0 hcb1 hcb2 hltb
            refine (specWideOk n1 h1 l1 _).mono ?_
            rintro e w6 ⟨rfl, hB6⟩
            have hBB := hB6
            replace hXa := box_still hXa hBB
            replace hXb := box_still hXb hBB
            replace HT := Lib.hid (bt2 HT.out hBB)
            clear hBB hB6
            rw [hk1]
            have hca0 : w6.cell? ⟨w1.heap.size, 0, none⟩ = some (.bool n0) := cell_blk hXa 0
            have hca1 : w6.cell? ⟨w1.heap.size, 1, none⟩ = some (.int .u64 h0) := cell_blk hXa 1
            have hca2 : w6.cell? ⟨w1.heap.size, 2, none⟩ = some (.int .u64 l0) := cell_blk hXa 2
            have hlta : w1.heap.size < w6.heap.size := blk_ltW hXa
            have hcb0 : w6.cell? ⟨w1.heap.size + 1, 0, none⟩ = some (.bool n1) := cell_blk hXb 0
            have hcb1 : w6.cell? ⟨w1.heap.size + 1, 1, none⟩ = some (.int .u64 h1) := cell_blk hXb 1
            have hcb2 : w6.cell? ⟨w1.heap.size + 1, 2, none⟩ = some (.int .u64 l1) := cell_blk hXb 2
            have hltb : w1.heap.size + 1 < w6.heap.size := blk_ltW hXb
            go_wp2_with fail
            clear hca0 hca1 hca2 hlta hcb0 hcb1 hcb2 hltb
            refine (implSubWide n0 h0 l0 n1 h1 l1 hp0 hp1 lp0 lq0 lp1 lq1 _).mono ?_
            rintro e w7 ⟨rfl, hB7⟩
            have hBB := hB7
            replace hXa := box_still hXa hBB
            replace hXb := box_still hXb hBB
            replace HT := Lib.hid (bt2 HT.out hBB)
            clear hBB hB7
            rw [HS.out]
            have hca0 : w7.cell? ⟨w1.heap.size, 0, none⟩ = some (.bool n0) := cell_blk hXa 0
            have hca1 : w7.cell? ⟨w1.heap.size, 1, none⟩ = some (.int .u64 h0) := cell_blk hXa 1
            have hca2 : w7.cell? ⟨w1.heap.size, 2, none⟩ = some (.int .u64 l0) := cell_blk hXa 2
            have hlta : w1.heap.size < w7.heap.size := blk_ltW hXa
            have hcb0 : w7.cell? ⟨w1.heap.size + 1, 0, none⟩ = some (.bool n1) := cell_blk hXb 0
            have hcb1 : w7.cell? ⟨w1.heap.size + 1, 1, none⟩ = some (.int .u64 h1) := cell_blk hXb 1
            have hcb2 : w7.cell? ⟨w1.heap.size + 1, 2, none⟩ = some (.int .u64 l1) := cell_blk hXb 2
            have hltb : w1.heap.size + 1 < w7.heap.size := blk_ltW hXb
            go_wp2_with fail
            all_goals first
              | exact (HNE.out ⟨by first | assumption | rfl, by first | assumption | rfl, by first | assumption | rfl⟩).elim
              | (refine (implCompareWide n2 h2 l2 false 0 0 q2.1 q2.2.1 q2.2.2.1 (by omega) (by omega) (by omega) _).mono ?_
                 rintro e w8 ⟨rfl, hB8⟩
                 have hXd := box_kept hB8
                 have hBB := box_below hB8
                 replace hXa := box_still hXa hBB
                 replace hXb := box_still hXb hBB
                 replace HT := Lib.hid (bt2 HT.out hBB)
                 clear hBB hB8
                 rw [HZ.out]
                 go_wp2_with fail
                 go_ret
                 exact ⟨by first | rfl | simp, HT.out⟩)
          · have HS : Hid (addE n0 h0 l0 (negV n1 h1 l1) h1 l1 = .returned (.tuple #[.agg #[.bool false, .int .u64 0, .int .u64 0], .bool false])) := Lib.hid (by rw [sub_shape hp1 lp1 hk0 hk1, ← fitW_no hr])
            clear hr hc
            go_wp2_with fail
            refine (implCompareWide n0 h0 l0 n1 h1 l1 hp0 lp0 lq0 hp1 lp1 lq1 _).mono ?_
            rintro e w2 ⟨rfl, hB2⟩
            obtain ⟨hXa, hXb, hBB, _⟩ := box2 hB2
            replace HT := Lib.hid (bt2 HT.out hBB)
            clear hBB hB2
            rw [HN.out]
            have hca0 : w2.cell? ⟨w1.heap.size, 0, none⟩ = some (.bool n0) := cell_blk hXa 0
            have hca1 : w2.cell? ⟨w1.heap.size, 1, none⟩ = some (.int .u64 h0) := cell_blk hXa 1
            have hca2 : w2.cell? ⟨w1.heap.size, 2, none⟩ = some (.int .u64 l0) := cell_blk hXa 2
            have hlta : w1.heap.size < w2.heap.size := blk_ltW hXa
            have hcb0 : w2.cell? ⟨w1.heap.size + 1, 0, none⟩ = some (.bool n1) := cell_blk hXb 0
            have hcb1 : w2.cell? ⟨w1.heap.size + 1, 1, none⟩ = some (.int .u64 h1) := cell_blk hXb 1
            have hcb2 : w2.cell? ⟨w1.heap.size + 1, 2, none⟩ = some (.int .u64 l1) := cell_blk hXb 2
            have hltb : w1.heap.size + 1 < w2.heap.size := blk_ltW hXb
            go_wp2_with fail
            clear hca0 hca1 hca2 hlta hcb0 hcb1 hcb2 hltb
            refine (specCompareWide n0 h0 l0 n1 h1 l1 hp0 lp0 lq0 hp1 lp1 lq1 _).mono ?_
            rintro e w3 ⟨rfl, hB3⟩
            have hBB := hB3
            replace hXa := box_still hXa hBB
            replace hXb := box_still hXb hBB
            replace HT := Lib.hid (bt2 HT.out hBB)
            clear hBB hB3
            rw [HN.out]
            have hca0 : w3.cell? ⟨w1.heap.size, 0, none⟩ = some (.bool n0) := cell_blk hXa 0
            have hca1 : w3.cell? ⟨w1.heap.size, 1, none⟩ = some (.int .u64 h0) := cell_blk hXa 1
            have hca2 : w3.cell? ⟨w1.heap.size, 2, none⟩ = some (.int .u64 l0) := cell_blk hXa 2
            have hlta : w1.heap.size < w3.heap.size := blk_ltW hXa
            have hcb0 : w3.cell? ⟨w1.heap.size + 1, 0, none⟩ = some (.bool n1) := cell_blk hXb 0
            have hcb1 : w3.cell? ⟨w1.heap.size + 1, 1, none⟩ = some (.int .u64 h1) := cell_blk hXb 1
            have hcb2 : w3.cell? ⟨w1.heap.size + 1, 2, none⟩ = some (.int .u64 l1) := cell_blk hXb 2
            have hltb : w1.heap.size + 1 < w3.heap.size := blk_ltW hXb
            go_wp2_with fail
            clear hca0 hca1 hca2 hlta hcb0 hcb1 hcb2 hltb
            refine (implCompareWide n1 h1 l1 n0 h0 l0 hp1 lp1 lq1 hp0 lp0 lq0 _).mono ?_
            rintro e w4 ⟨rfl, hB4⟩
            have hBB := hB4
            replace hXa := box_still hXa hBB
            replace hXb := box_still hXb hBB
            replace HT := Lib.hid (bt2 HT.out hBB)
            clear hBB hB4
            rw [HM.out]
            have hca0 : w4.cell? ⟨w1.heap.size, 0, none⟩ = some (.bool n0) := cell_blk hXa 0
            have hca1 : w4.cell? ⟨w1.heap.size, 1, none⟩ = some (.int .u64 h0) := cell_blk hXa 1
            have hca2 : w4.cell? ⟨w1.heap.size, 2, none⟩ = some (.int .u64 l0) := cell_blk hXa 2
            have hlta : w1.heap.size < w4.heap.size := blk_ltW hXa
            have hcb0 : w4.cell? ⟨w1.heap.size + 1, 0, none⟩ = some (.bool n1) := cell_blk hXb 0
            have hcb1 : w4.cell? ⟨w1.heap.size + 1, 1, none⟩ = some (.int .u64 h1) := cell_blk hXb 1
            have hcb2 : w4.cell? ⟨w1.heap.size + 1, 2, none⟩ = some (.int .u64 l1) := cell_blk hXb 2
            have hltb : w1.heap.size + 1 < w4.heap.size := blk_ltW hXb
            go_wp2_with fail
            clear hca0 hca1 hca2 hlta hcb0 hcb1 hcb2 hltb
            refine (specWideOk n0 h0 l0 _).mono ?_
            rintro e w5 ⟨rfl, hB5⟩
            have hBB := hB5
            replace hXa := box_still hXa hBB
            replace hXb := box_still hXb hBB
            replace HT := Lib.hid (bt2 HT.out hBB)
            clear hBB hB5
            rw [hk0]
            have hca0 : w5.cell? ⟨w1.heap.size, 0, none⟩ = some (.bool n0) := cell_blk hXa 0
            have hca1 : w5.cell? ⟨w1.heap.size, 1, none⟩ = some (.int .u64 h0) := cell_blk hXa 1
            have hca2 : w5.cell? ⟨w1.heap.size, 2, none⟩ = some (.int .u64 l0) := cell_blk hXa 2
            have hlta : w1.heap.size < w5.heap.size := blk_ltW hXa
            have hcb0 : w5.cell? ⟨w1.heap.size + 1, 0, none⟩ = some (.bool n1) := cell_blk hXb 0
            have hcb1 : w5.cell? ⟨w1.heap.size + 1, 1, none⟩ = some (.int .u64 h1) := cell_blk hXb 1
            have hcb2 : w5.cell? ⟨w1.heap.size + 1, 2, none⟩ = some (.int .u64 l1) := cell_blk hXb 2
            have hltb : w1.heap.size + 1 < w5.heap.size := blk_ltW hXb
            go_wp2_with fail
            clear hca0 hca1 hca2 hlta hcb0 hcb1 hcb2 hltb
            refine (specWideOk n1 h1 l1 _).mono ?_
            rintro e w6 ⟨rfl, hB6⟩
            have hBB := hB6
            replace hXa := box_still hXa hBB
            replace hXb := box_still hXb hBB
            replace HT := Lib.hid (bt2 HT.out hBB)
            clear hBB hB6
            rw [hk1]
            have hca0 : w6.cell? ⟨w1.heap.size, 0, none⟩ = some (.bool n0) := cell_blk hXa 0
            have hca1 : w6.cell? ⟨w1.heap.size, 1, none⟩ = some (.int .u64 h0) := cell_blk hXa 1
            have hca2 : w6.cell? ⟨w1.heap.size, 2, none⟩ = some (.int .u64 l0) := cell_blk hXa 2
            have hlta : w1.heap.size < w6.heap.size := blk_ltW hXa
            have hcb0 : w6.cell? ⟨w1.heap.size + 1, 0, none⟩ = some (.bool n1) := cell_blk hXb 0
            have hcb1 : w6.cell? ⟨w1.heap.size + 1, 1, none⟩ = some (.int .u64 h1) := cell_blk hXb 1
            have hcb2 : w6.cell? ⟨w1.heap.size + 1, 2, none⟩ = some (.int .u64 l1) := cell_blk hXb 2
            have hltb : w1.heap.size + 1 < w6.heap.size := blk_ltW hXb
            go_wp2_with fail
            clear hca0 hca1 hca2 hlta hcb0 hcb1 hcb2 hltb
            refine (implSubWide n0 h0 l0 n1 h1 l1 hp0 hp1 lp0 lq0 lp1 lq1 _).mono ?_
            rintro e w7 ⟨rfl, hB7⟩
            have hBB := hB7
            replace hXa := box_still hXa hBB
            replace hXb := box_still hXb hBB
            replace HT := Lib.hid (bt2 HT.out hBB)
            clear hBB hB7
            rw [HS.out]
            have hca0 : w7.cell? ⟨w1.heap.size, 0, none⟩ = some (.bool n0) := cell_blk hXa 0
            have hca1 : w7.cell? ⟨w1.heap.size, 1, none⟩ = some (.int .u64 h0) := cell_blk hXa 1
            have hca2 : w7.cell? ⟨w1.heap.size, 2, none⟩ = some (.int .u64 l0) := cell_blk hXa 2
            have hlta : w1.heap.size < w7.heap.size := blk_ltW hXa
            have hcb0 : w7.cell? ⟨w1.heap.size + 1, 0, none⟩ = some (.bool n1) := cell_blk hXb 0
            have hcb1 : w7.cell? ⟨w1.heap.size + 1, 1, none⟩ = some (.int .u64 h1) := cell_blk hXb 1
            have hcb2 : w7.cell? ⟨w1.heap.size + 1, 2, none⟩ = some (.int .u64 l1) := cell_blk hXb 2
            have hltb : w1.heap.size + 1 < w7.heap.size := blk_ltW hXb
            go_wp2_with fail
            all_goals first
              | exact (HNE.out ⟨by first | assumption | rfl, by first | assumption | rfl, by first | assumption | rfl⟩).elim
              | (go_ret
                 exact ⟨by first | rfl | simp, HT.out.alloc HT.out.size _⟩)
        · replace hk1 : okV n1 h1 l1 = false := by simpa using hk1
          clear hc
          go_wp2_with fail
          refine (implCompareWide n0 h0 l0 n1 h1 l1 hp0 lp0 lq0 hp1 lp1 lq1 _).mono ?_
          rintro e w2 ⟨rfl, hB2⟩
          obtain ⟨hXa, hXb, hBB, _⟩ := box2 hB2
          replace HT := Lib.hid (bt2 HT.out hBB)
          clear hBB hB2
          rw [HN.out]
          have hca0 : w2.cell? ⟨w1.heap.size, 0, none⟩ = some (.bool n0) := cell_blk hXa 0
          have hca1 : w2.cell? ⟨w1.heap.size, 1, none⟩ = some (.int .u64 h0) := cell_blk hXa 1
          have hca2 : w2.cell? ⟨w1.heap.size, 2, none⟩ = some (.int .u64 l0) := cell_blk hXa 2
          have hlta : w1.heap.size < w2.heap.size := blk_ltW hXa
          have hcb0 : w2.cell? ⟨w1.heap.size + 1, 0, none⟩ = some (.bool n1) := cell_blk hXb 0
          have hcb1 : w2.cell? ⟨w1.heap.size + 1, 1, none⟩ = some (.int .u64 h1) := cell_blk hXb 1
          have hcb2 : w2.cell? ⟨w1.heap.size + 1, 2, none⟩ = some (.int .u64 l1) := cell_blk hXb 2
          have hltb : w1.heap.size + 1 < w2.heap.size := blk_ltW hXb
          go_wp2_with fail
          clear hca0 hca1 hca2 hlta hcb0 hcb1 hcb2 hltb
          refine (specCompareWide n0 h0 l0 n1 h1 l1 hp0 lp0 lq0 hp1 lp1 lq1 _).mono ?_
          rintro e w3 ⟨rfl, hB3⟩
          have hBB := hB3
          replace hXa := box_still hXa hBB
          replace hXb := box_still hXb hBB
          replace HT := Lib.hid (bt2 HT.out hBB)
          clear hBB hB3
          rw [HN.out]
          have hca0 : w3.cell? ⟨w1.heap.size, 0, none⟩ = some (.bool n0) := cell_blk hXa 0
          have hca1 : w3.cell? ⟨w1.heap.size, 1, none⟩ = some (.int .u64 h0) := cell_blk hXa 1
          have hca2 : w3.cell? ⟨w1.heap.size, 2, none⟩ = some (.int .u64 l0) := cell_blk hXa 2
          have hlta : w1.heap.size < w3.heap.size := blk_ltW hXa
          have hcb0 : w3.cell? ⟨w1.heap.size + 1, 0, none⟩ = some (.bool n1) := cell_blk hXb 0
          have hcb1 : w3.cell? ⟨w1.heap.size + 1, 1, none⟩ = some (.int .u64 h1) := cell_blk hXb 1
          have hcb2 : w3.cell? ⟨w1.heap.size + 1, 2, none⟩ = some (.int .u64 l1) := cell_blk hXb 2
          have hltb : w1.heap.size + 1 < w3.heap.size := blk_ltW hXb
          go_wp2_with fail
          clear hca0 hca1 hca2 hlta hcb0 hcb1 hcb2 hltb
          refine (implCompareWide n1 h1 l1 n0 h0 l0 hp1 lp1 lq1 hp0 lp0 lq0 _).mono ?_
          rintro e w4 ⟨rfl, hB4⟩
          have hBB := hB4
          replace hXa := box_still hXa hBB
          replace hXb := box_still hXb hBB
          replace HT := Lib.hid (bt2 HT.out hBB)
          clear hBB hB4
          rw [HM.out]
          have hca0 : w4.cell? ⟨w1.heap.size, 0, none⟩ = some (.bool n0) := cell_blk hXa 0
          have hca1 : w4.cell? ⟨w1.heap.size, 1, none⟩ = some (.int .u64 h0) := cell_blk hXa 1
          have hca2 : w4.cell? ⟨w1.heap.size, 2, none⟩ = some (.int .u64 l0) := cell_blk hXa 2
          have hlta : w1.heap.size < w4.heap.size := blk_ltW hXa
          have hcb0 : w4.cell? ⟨w1.heap.size + 1, 0, none⟩ = some (.bool n1) := cell_blk hXb 0
          have hcb1 : w4.cell? ⟨w1.heap.size + 1, 1, none⟩ = some (.int .u64 h1) := cell_blk hXb 1
          have hcb2 : w4.cell? ⟨w1.heap.size + 1, 2, none⟩ = some (.int .u64 l1) := cell_blk hXb 2
          have hltb : w1.heap.size + 1 < w4.heap.size := blk_ltW hXb
          go_wp2_with fail
          clear hca0 hca1 hca2 hlta hcb0 hcb1 hcb2 hltb
          refine (specWideOk n0 h0 l0 _).mono ?_
          rintro e w5 ⟨rfl, hB5⟩
          have hBB := hB5
          replace hXa := box_still hXa hBB
          replace hXb := box_still hXb hBB
          replace HT := Lib.hid (bt2 HT.out hBB)
          clear hBB hB5
          rw [hk0]
          have hca0 : w5.cell? ⟨w1.heap.size, 0, none⟩ = some (.bool n0) := cell_blk hXa 0
          have hca1 : w5.cell? ⟨w1.heap.size, 1, none⟩ = some (.int .u64 h0) := cell_blk hXa 1
          have hca2 : w5.cell? ⟨w1.heap.size, 2, none⟩ = some (.int .u64 l0) := cell_blk hXa 2
          have hlta : w1.heap.size < w5.heap.size := blk_ltW hXa
          have hcb0 : w5.cell? ⟨w1.heap.size + 1, 0, none⟩ = some (.bool n1) := cell_blk hXb 0
          have hcb1 : w5.cell? ⟨w1.heap.size + 1, 1, none⟩ = some (.int .u64 h1) := cell_blk hXb 1
          have hcb2 : w5.cell? ⟨w1.heap.size + 1, 2, none⟩ = some (.int .u64 l1) := cell_blk hXb 2
          have hltb : w1.heap.size + 1 < w5.heap.size := blk_ltW hXb
          go_wp2_with fail
          clear hca0 hca1 hca2 hlta hcb0 hcb1 hcb2 hltb
          refine (specWideOk n1 h1 l1 _).mono ?_
          rintro e w6 ⟨rfl, hB6⟩
          have hBB := hB6
          replace hXa := box_still hXa hBB
          replace hXb := box_still hXb hBB
          replace HT := Lib.hid (bt2 HT.out hBB)
          clear hBB hB6
          rw [hk1]
          have hca0 : w6.cell? ⟨w1.heap.size, 0, none⟩ = some (.bool n0) := cell_blk hXa 0
          have hca1 : w6.cell? ⟨w1.heap.size, 1, none⟩ = some (.int .u64 h0) := cell_blk hXa 1
          have hca2 : w6.cell? ⟨w1.heap.size, 2, none⟩ = some (.int .u64 l0) := cell_blk hXa 2
          have hlta : w1.heap.size < w6.heap.size := blk_ltW hXa
          have hcb0 : w6.cell? ⟨w1.heap.size + 1, 0, none⟩ = some (.bool n1) := cell_blk hXb 0
          have hcb1 : w6.cell? ⟨w1.heap.size + 1, 1, none⟩ = some (.int .u64 h1) := cell_blk hXb 1
          have hcb2 : w6.cell? ⟨w1.heap.size + 1, 2, none⟩ = some (.int .u64 l1) := cell_blk hXb 2
          have hltb : w1.heap.size + 1 < w6.heap.size := blk_ltW hXb
          go_wp2_with fail
          all_goals (go_ret; exact ⟨by first | rfl | simp, HT.out⟩)
      · replace hk0 : okV n0 h0 l0 = false := by simpa using hk0
        clear hc
        go_wp2_with fail
        refine (implCompareWide n0 h0 l0 n1 h1 l1 hp0 lp0 lq0 hp1 lp1 lq1 _).mono ?_
        rintro e w2 ⟨rfl, hB2⟩
        obtain ⟨hXa, hXb, hBB, _⟩ := box2 hB2
        replace HT := Lib.hid (bt2 HT.out hBB)
        clear hBB hB2
        rw [HN.out]
        have hca0 : w2.cell? ⟨w1.heap.size, 0, none⟩ = some (.bool n0) := cell_blk hXa 0
        have hca1 : w2.cell? ⟨w1.heap.size, 1, none⟩ = some (.int .u64 h0) := cell_blk hXa 1
        have hca2 : w2.cell? ⟨w1.heap.size, 2, none⟩ = some (.int .u64 l0) := cell_blk hXa 2
        have hlta : w1.heap.size < w2.heap.size := blk_ltW hXa
        have hcb0 : w2.cell? ⟨w1.heap.size + 1, 0, none⟩ = some (.bool n1) := cell_blk hXb 0
        have hcb1 : w2.cell? ⟨w1.heap.size + 1, 1, none⟩ = some (.int .u64 h1) := cell_blk hXb 1
        have hcb2 : w2.cell? ⟨w1.heap.size + 1, 2, none⟩ = some (.int .u64 l1) := cell_blk hXb 2
        have hltb : w1.heap.size + 1 < w2.heap.size := blk_ltW hXb
        go_wp2_with fail
        clear hca0 hca1 hca2 hlta hcb0 hcb1 hcb2 hltb
        refine (specCompareWide n0 h0 l0 n1 h1 l1 hp0 lp0 lq0 hp1 lp1 lq1 _).mono ?_
        rintro e w3 ⟨rfl, hB3⟩
        have hBB := hB3
        replace hXa := box_still hXa hBB
        replace hXb := box_still hXb hBB
        replace HT := Lib.hid (bt2 HT.out hBB)
        clear hBB hB3
        rw [HN.out]
        have hca0 : w3.cell? ⟨w1.heap.size, 0, none⟩ = some (.bool n0) := cell_blk hXa 0
        have hca1 : w3.cell? ⟨w1.heap.size, 1, none⟩ = some (.int .u64 h0) := cell_blk hXa 1
        have hca2 : w3.cell? ⟨w1.heap.size, 2, none⟩ = some (.int .u64 l0) := cell_blk hXa 2
        have hlta : w1.heap.size < w3.heap.size := blk_ltW hXa
        have hcb0 : w3.cell? ⟨w1.heap.size + 1, 0, none⟩ = some (.bool n1) := cell_blk hXb 0
        have hcb1 : w3.cell? ⟨w1.heap.size + 1, 1, none⟩ = some (.int .u64 h1) := cell_blk hXb 1
        have hcb2 : w3.cell? ⟨w1.heap.size + 1, 2, none⟩ = some (.int .u64 l1) := cell_blk hXb 2
        have hltb : w1.heap.size + 1 < w3.heap.size := blk_ltW hXb
        go_wp2_with fail
        clear hca0 hca1 hca2 hlta hcb0 hcb1 hcb2 hltb
        refine (implCompareWide n1 h1 l1 n0 h0 l0 hp1 lp1 lq1 hp0 lp0 lq0 _).mono ?_
        rintro e w4 ⟨rfl, hB4⟩
        have hBB := hB4
        replace hXa := box_still hXa hBB
        replace hXb := box_still hXb hBB
        replace HT := Lib.hid (bt2 HT.out hBB)
        clear hBB hB4
        rw [HM.out]
        have hca0 : w4.cell? ⟨w1.heap.size, 0, none⟩ = some (.bool n0) := cell_blk hXa 0
        have hca1 : w4.cell? ⟨w1.heap.size, 1, none⟩ = some (.int .u64 h0) := cell_blk hXa 1
        have hca2 : w4.cell? ⟨w1.heap.size, 2, none⟩ = some (.int .u64 l0) := cell_blk hXa 2
        have hlta : w1.heap.size < w4.heap.size := blk_ltW hXa
        have hcb0 : w4.cell? ⟨w1.heap.size + 1, 0, none⟩ = some (.bool n1) := cell_blk hXb 0
        have hcb1 : w4.cell? ⟨w1.heap.size + 1, 1, none⟩ = some (.int .u64 h1) := cell_blk hXb 1
        have hcb2 : w4.cell? ⟨w1.heap.size + 1, 2, none⟩ = some (.int .u64 l1) := cell_blk hXb 2
        have hltb : w1.heap.size + 1 < w4.heap.size := blk_ltW hXb
        go_wp2_with fail
        clear hca0 hca1 hca2 hlta hcb0 hcb1 hcb2 hltb
        refine (specWideOk n0 h0 l0 _).mono ?_
        rintro e w5 ⟨rfl, hB5⟩
        have hBB := hB5
        replace hXa := box_still hXa hBB
        replace hXb := box_still hXb hBB
        replace HT := Lib.hid (bt2 HT.out hBB)
        clear hBB hB5
        rw [hk0]
        have hca0 : w5.cell? ⟨w1.heap.size, 0, none⟩ = some (.bool n0) := cell_blk hXa 0
        have hca1 : w5.cell? ⟨w1.heap.size, 1, none⟩ = some (.int .u64 h0) := cell_blk hXa 1
        have hca2 : w5.cell? ⟨w1.heap.size, 2, none⟩ = some (.int .u64 l0) := cell_blk hXa 2
        have hlta : w1.heap.size < w5.heap.size := blk_ltW hXa
        have hcb0 : w5.cell? ⟨w1.heap.size + 1, 0, none⟩ = some (.bool n1) := cell_blk hXb 0
        have hcb1 : w5.cell? ⟨w1.heap.size + 1, 1, none⟩ = some (.int .u64 h1) := cell_blk hXb 1
        have hcb2 : w5.cell? ⟨w1.heap.size + 1, 2, none⟩ = some (.int .u64 l1) := cell_blk hXb 2
        have hltb : w1.heap.size + 1 < w5.heap.size := blk_ltW hXb
        go_wp2_with fail
        all_goals (go_ret; exact ⟨by first | rfl | simp, HT.out⟩)
end Go.Proofs.Ytjmlpeapbealfaa
