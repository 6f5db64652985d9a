
/-
  Chapter 4: the walk of the law on the texts of wide numbers.
-/
import Derived.Test.YtjmlpeapbealfaaDraw5
import Derived.Test.YtjmlpeapbealfaaLawWide
import Derived.Test.YtjmlpeapbealfaaI4
namespace Go.Proofs.Ytjmlpeapbealfaa
open Go.RowKit

theorem rdE_text {n : Bool} {h l : Int} (h0 : 0 ≤ h) (l0 : 0 ≤ l) (l1 : l < 18446744073709551616) (k : okV n h l = true) : rdE (textV n h l) = .returned (.tuple #[.agg #[.bool n, .int .u64 h, .int .u64 l], .bool true]) := by
  rw [rdE_yes (isW_text h0 l0 l1 k), wideC_of_ok h0 l0 l1 k]
theorem rdE_none {n : Bool} {h l : Int} (k : okV n h l = false) : rdE (textV n h l) = .returned (.tuple #[.agg #[.bool false, .int .u64 0, .int .u64 0], .bool false]) := by
  rw [textV, if_neg (by simp [k]), rdE_no noW_nil]
theorem textV_of {z : Int} {n : Bool} {h l : Int} (hr : RoomW z) (e : wideC z = .agg #[.bool n, .int .u64 h, .int .u64 l]) : textV n h l = Lib.itoa z := by
  obtain ⟨c, d⟩ := wideC_okV hr e
  rw [textV, if_pos c, d]

set_option maxRecDepth 100000 in
set_option maxHeartbeats 4000000 in
theorem lawFnWideText (w : World) (v : Value) (n : Nat) (hb : Bytes w v n) :
    Calls Try.prog 6 #[v] w fun e w' => e = .returned (.bool true) ∧ Below w.heap.size w w' := by
  by_cases hbig : 1048576 < n
  · go_enter Try.func6, Try.ntmps6
    go_wp2_with fail
    refine (big_yes w v n hb hbig).mono ?_
    rintro e w1 ⟨rfl, rfl⟩
    go_wp2_with fail
    go_ret
    exact ⟨rfl, Below.refl _ _⟩
  · go_enter Try.func6, Try.ntmps6
    go_wp2_with fail
    refine (big_no w v n hb hbig).mono ?_
    rintro e w1 ⟨rfl, rfl⟩
    go_wp2_with fail
    refine (drawWideText w v n hb).mono ?_
    rintro e w1 ⟨⟨n0, h0, l0, ⟨hp0, hq0⟩, ⟨lp0, lq0⟩, rfl⟩, hB1⟩
    have hBB := hB1
    have HT := Lib.hid hBB
    clear hBB hB1
    have hb1 := hb.mono HT.out
    go_wp2_with fail
    refine (implWideText n0 h0 l0 hp0 lp0 lq0 _).mono ?_
    rintro e w2 ⟨rfl, hB2⟩
    have hXw := box_kept hB2
    have hBB := box_below hB2
    replace HT := Lib.hid (bt2 HT.out hBB)
    clear hBB hB2
    go_wp2_with fail
    by_cases hk : okV n0 h0 l0 = true
    · have HX := Lib.hid (rdE_text hp0 lp0 lq0 hk)
      refine (implReadWide _ (textV_size hp0 lp0 lq0) _).mono ?_
      rintro e w3 ⟨rfl, hB3⟩
      have hBB := hB3
      replace hXw := box_still hXw hBB
      replace HT := Lib.hid (bt2 HT.out hBB)
      clear hBB hB3
      rw [show (⟨(textV n0 h0 l0).toArray⟩ : ByteArray).data.toList = textV n0 h0 l0 from rfl, HX.out]
      have hb3 := hb.mono HT.out
      go_wp2_with fail
      have hb4 := hb3.mono ((Below.refl _ _).alloc (Nat.le_refl _) (.cells #[.bool n0, .int .u64 h0, .int .u64 l0] 30))
      refine (drawReadWide _ v n hb4).mono ?_
      rintro e w4 ⟨⟨t, ht, rfl⟩, hB4⟩
      have hXx := box_kept hB4
      have hBB := box_below hB4
      replace hXw := box_still hXw hBB
      replace HT := Lib.hid (bt2 HT.out hBB)
      clear hBB hB4
      clear hb hb1 hb3 hb4
      by_cases hz : ∃ z, IsW t.data.toList z
      · obtain ⟨z, hz⟩ := hz
        obtain ⟨n1, h1, l1, hW⟩ : ∃ (n : Bool) (h l : Int), wideC z = .agg #[.bool n, .int .u64 h, .int .u64 l] := ⟨_, _, _, rfl⟩
        have HY : Hid (rdE t.data.toList = .returned (.tuple #[.agg #[.bool n1, .int .u64 h1, .int .u64 l1], .bool true])) := Lib.hid (by rw [rdE_yes hz, hW])
        have HTX : Hid (textV n1 h1 l1 = t.data.toList) := Lib.hid (by rw [textV_of hz.1 hW]; exact hz.2)
        have q1 := wideC_bounds hW
        clear hz hW
        go_wp2_with fail
        refine (implReadWide t (by omega) _).mono ?_
        rintro e w5 ⟨rfl, hB5⟩
        have hBB := hB5
        replace hXw := box_still hXw hBB
        replace hXx := box_still hXx hBB
        replace HT := Lib.hid (bt2 HT.out hBB)
        clear hBB hB5
        rw [HY.out]
        go_wp2_with fail
        refine (specReadWide t _).mono ?_
        rintro e w6 ⟨rfl, hB6⟩
        have hXy := box_kept hB6
        have hBB := box_below hB6
        replace hXw := box_still hXw hBB
        replace hXx := box_still hXx hBB
        replace HT := Lib.hid (bt2 HT.out hBB)
        clear hBB hB6
        rw [HY.out]
        have hcw0 : w6.cell? ⟨w1.heap.size, 0, none⟩ = some (.bool n0) := cell_blk hXw 0
        have hcw1 : w6.cell? ⟨w1.heap.size, 1, none⟩ = some (.int .u64 h0) := cell_blk hXw 1
        have hcw2 : w6.cell? ⟨w1.heap.size, 2, none⟩ = some (.int .u64 l0) := cell_blk hXw 2
        have hltw : w1.heap.size < w6.heap.size := blk_ltW hXw
        go_wp2_with fail
        clear hcw0 hcw1 hcw2 hltw
        refine (specWideOk n0 h0 l0 _).mono ?_
        rintro e w7 ⟨rfl, hB7⟩
        have hXu := box_kept hB7
        have hBB := box_below hB7
        replace hXw := box_still hXw hBB
        replace hXx := box_still hXx hBB
        replace hXy := box_still hXy hBB
        replace HT := Lib.hid (bt2 HT.out hBB)
        clear hBB hB7
        rw [hk]
        have hcw0 : w7.cell? ⟨w1.heap.size, 0, none⟩ = some (.bool n0) := cell_blk hXw 0
        have hcw1 : w7.cell? ⟨w1.heap.size, 1, none⟩ = some (.int .u64 h0) := cell_blk hXw 1
        have hcw2 : w7.cell? ⟨w1.heap.size, 2, none⟩ = some (.int .u64 l0) := cell_blk hXw 2
        have hltw : w1.heap.size < w7.heap.size := blk_ltW hXw
        have hcx0 : w7.cell? ⟨w3.heap.size, 0, none⟩ = some (.bool n0) := cell_blk hXx 0
        have hcx1 : w7.cell? ⟨w3.heap.size, 1, none⟩ = some (.int .u64 h0) := cell_blk hXx 1
        have hcx2 : w7.cell? ⟨w3.heap.size, 2, none⟩ = some (.int .u64 l0) := cell_blk hXx 2
        have hltx : w3.heap.size < w7.heap.size := blk_ltW hXx
        have hcy0 : w7.cell? ⟨w5.heap.size, 0, none⟩ = some (.bool n1) := cell_blk hXy 0
        have hcy1 : w7.cell? ⟨w5.heap.size, 1, none⟩ = some (.int .u64 h1) := cell_blk hXy 1
        have hcy2 : w7.cell? ⟨w5.heap.size, 2, none⟩ = some (.int .u64 l1) := cell_blk hXy 2
        have hlty : w5.heap.size < w7.heap.size := blk_ltW hXy
        go_wp2_with fail
        clear hcw0 hcw1 hcw2 hltw hcx0 hcx1 hcx2 hltx hcy0 hcy1 hcy2 hlty
        refine (implWideText n1 h1 l1 q1.1 q1.2.1 q1.2.2.1 _).mono ?_
        rintro e w8 ⟨rfl, hB8⟩
        have hBB := hB8
        replace hXw := box_still hXw hBB
        replace hXx := box_still hXx hBB
        replace hXy := box_still hXy hBB
        replace hXu := box_still hXu hBB
        replace HT := Lib.hid (bt2 HT.out hBB)
        clear hBB hB8
        rw [HTX.out]
        go_wp2_with fail
        all_goals (go_ret; exact ⟨by first | rfl | simp, HT.out⟩)
      · have HY : Hid (rdE t.data.toList = .returned (.tuple #[.agg #[.bool false, .int .u64 0, .int .u64 0], .bool false])) := Lib.hid (rdE_no (fun z h => hz ⟨z, h⟩))
        clear hz
        go_wp2_with fail
        refine (implReadWide t (by omega) _).mono ?_
        rintro e w5 ⟨rfl, hB5⟩
        have hBB := hB5
        replace hXw := box_still hXw hBB
        replace hXx := box_still hXx hBB
        replace HT := Lib.hid (bt2 HT.out hBB)
        clear hBB hB5
        rw [HY.out]
        go_wp2_with fail
        refine (specReadWide t _).mono ?_
        rintro e w6 ⟨rfl, hB6⟩
        have hXy := box_kept hB6
        have hBB := box_below hB6
        replace hXw := box_still hXw hBB
        replace hXx := box_still hXx hBB
        replace HT := Lib.hid (bt2 HT.out hBB)
        clear hBB hB6
        rw [HY.out]
        have hcw0 : w6.cell? ⟨w1.heap.size, 0, none⟩ = some (.bool n0) := cell_blk hXw 0
        have hcw1 : w6.cell? ⟨w1.heap.size, 1, none⟩ = some (.int .u64 h0) := cell_blk hXw 1
        have hcw2 : w6.cell? ⟨w1.heap.size, 2, none⟩ = some (.int .u64 l0) := cell_blk hXw 2
        have hltw : w1.heap.size < w6.heap.size := blk_ltW hXw
        go_wp2_with fail
        clear hcw0 hcw1 hcw2 hltw
        refine (specWideOk n0 h0 l0 _).mono ?_
        rintro e w7 ⟨rfl, hB7⟩
        have hXu := box_kept hB7
        have hBB := box_below hB7
        replace hXw := box_still hXw hBB
        replace hXx := box_still hXx hBB
        replace hXy := box_still hXy hBB
        replace HT := Lib.hid (bt2 HT.out hBB)
        clear hBB hB7
        rw [hk]
        have hcw0 : w7.cell? ⟨w1.heap.size, 0, none⟩ = some (.bool n0) := cell_blk hXw 0
        have hcw1 : w7.cell? ⟨w1.heap.size, 1, none⟩ = some (.int .u64 h0) := cell_blk hXw 1
        have hcw2 : w7.cell? ⟨w1.heap.size, 2, none⟩ = some (.int .u64 l0) := cell_blk hXw 2
        have hltw : w1.heap.size < w7.heap.size := blk_ltW hXw
        have hcx0 : w7.cell? ⟨w3.heap.size, 0, none⟩ = some (.bool n0) := cell_blk hXx 0
        have hcx1 : w7.cell? ⟨w3.heap.size, 1, none⟩ = some (.int .u64 h0) := cell_blk hXx 1
        have hcx2 : w7.cell? ⟨w3.heap.size, 2, none⟩ = some (.int .u64 l0) := cell_blk hXx 2
        have hltx : w3.heap.size < w7.heap.size := blk_ltW hXx
        have hcy0 : w7.cell? ⟨w5.heap.size, 0, none⟩ = some (.bool false) := cell_blk hXy 0
        have hcy1 : w7.cell? ⟨w5.heap.size, 1, none⟩ = some (.int .u64 0) := cell_blk hXy 1
        have hcy2 : w7.cell? ⟨w5.heap.size, 2, none⟩ = some (.int .u64 0) := cell_blk hXy 2
        have hlty : w5.heap.size < w7.heap.size := blk_ltW hXy
        go_wp2_with fail
        clear hcw0 hcw1 hcw2 hltw hcx0 hcx1 hcx2 hltx hcy0 hcy1 hcy2 hlty
        all_goals (go_ret; exact ⟨by first | rfl | simp, HT.out⟩)
    · replace hk : okV n0 h0 l0 = false := by simpa using hk
      have HX := Lib.hid (rdE_none (n := n0) (h := h0) (l := l0) hk)
      refine (implReadWide _ (textV_size hp0 lp0 lq0) _).mono ?_
      rintro e w3 ⟨rfl, hB3⟩
      have hBB := hB3
      replace hXw := box_still hXw hBB
      replace HT := Lib.hid (bt2 HT.out hBB)
      clear hBB hB3
      rw [show (⟨(textV n0 h0 l0).toArray⟩ : ByteArray).data.toList = textV n0 h0 l0 from rfl, HX.out]
      have hb3 := hb.mono HT.out
      go_wp2_with fail
      have hb4 := hb3.mono ((Below.refl _ _).alloc (Nat.le_refl _) (.cells #[.bool false, .int .u64 0, .int .u64 0] 30))
      refine (drawReadWide _ v n hb4).mono ?_
      rintro e w4 ⟨⟨t, ht, rfl⟩, hB4⟩
      have hXx := box_kept hB4
      have hBB := box_below hB4
      replace hXw := box_still hXw hBB
      replace HT := Lib.hid (bt2 HT.out hBB)
      clear hBB hB4
      clear hb hb1 hb3 hb4
      by_cases hz : ∃ z, IsW t.data.toList z
      · obtain ⟨z, hz⟩ := hz
        obtain ⟨n1, h1, l1, hW⟩ : ∃ (n : Bool) (h l : Int), wideC z = .agg #[.bool n, .int .u64 h, .int .u64 l] := ⟨_, _, _, rfl⟩
        have HY : Hid (rdE t.data.toList = .returned (.tuple #[.agg #[.bool n1, .int .u64 h1, .int .u64 l1], .bool true])) := Lib.hid (by rw [rdE_yes hz, hW])
        have HTX : Hid (textV n1 h1 l1 = t.data.toList) := Lib.hid (by rw [textV_of hz.1 hW]; exact hz.2)
        have q1 := wideC_bounds hW
        clear hz hW
        go_wp2_with fail
        refine (implReadWide t (by omega) _).mono ?_
        rintro e w5 ⟨rfl, hB5⟩
        have hBB := hB5
        replace hXw := box_still hXw hBB
        replace hXx := box_still hXx hBB
        replace HT := Lib.hid (bt2 HT.out hBB)
        clear hBB hB5
        rw [HY.out]
        go_wp2_with fail
        refine (specReadWide t _).mono ?_
        rintro e w6 ⟨rfl, hB6⟩
        have hXy := box_kept hB6
        have hBB := box_below hB6
        replace hXw := box_still hXw hBB
        replace hXx := box_still hXx hBB
        replace HT := Lib.hid (bt2 HT.out hBB)
        clear hBB hB6
        rw [HY.out]
        have hcw0 : w6.cell? ⟨w1.heap.size, 0, none⟩ = some (.bool n0) := cell_blk hXw 0
        have hcw1 : w6.cell? ⟨w1.heap.size, 1, none⟩ = some (.int .u64 h0) := cell_blk hXw 1
        have hcw2 : w6.cell? ⟨w1.heap.size, 2, none⟩ = some (.int .u64 l0) := cell_blk hXw 2
        have hltw : w1.heap.size < w6.heap.size := blk_ltW hXw
        go_wp2_with fail
        clear hcw0 hcw1 hcw2 hltw
        refine (specWideOk n0 h0 l0 _).mono ?_
        rintro e w7 ⟨rfl, hB7⟩
        have hXu := box_kept hB7
        have hBB := box_below hB7
        replace hXw := box_still hXw hBB
        replace hXx := box_still hXx hBB
        replace hXy := box_still hXy hBB
        replace HT := Lib.hid (bt2 HT.out hBB)
        clear hBB hB7
        rw [hk]
        have hcw0 : w7.cell? ⟨w1.heap.size, 0, none⟩ = some (.bool n0) := cell_blk hXw 0
        have hcw1 : w7.cell? ⟨w1.heap.size, 1, none⟩ = some (.int .u64 h0) := cell_blk hXw 1
        have hcw2 : w7.cell? ⟨w1.heap.size, 2, none⟩ = some (.int .u64 l0) := cell_blk hXw 2
        have hltw : w1.heap.size < w7.heap.size := blk_ltW hXw
        have hcx0 : w7.cell? ⟨w3.heap.size, 0, none⟩ = some (.bool false) := cell_blk hXx 0
        have hcx1 : w7.cell? ⟨w3.heap.size, 1, none⟩ = some (.int .u64 0) := cell_blk hXx 1
        have hcx2 : w7.cell? ⟨w3.heap.size, 2, none⟩ = some (.int .u64 0) := cell_blk hXx 2
        have hltx : w3.heap.size < w7.heap.size := blk_ltW hXx
        have hcy0 : w7.cell? ⟨w5.heap.size, 0, none⟩ = some (.bool n1) := cell_blk hXy 0
        have hcy1 : w7.cell? ⟨w5.heap.size, 1, none⟩ = some (.int .u64 h1) := cell_blk hXy 1
        have hcy2 : w7.cell? ⟨w5.heap.size, 2, none⟩ = some (.int .u64 l1) := cell_blk hXy 2
        have hlty : w5.heap.size < w7.heap.size := blk_ltW hXy
        go_wp2_with fail
        clear hcw0 hcw1 hcw2 hltw hcx0 hcx1 hcx2 hltx hcy0 hcy1 hcy2 hlty
        refine (implWideText n1 h1 l1 q1.1 q1.2.1 q1.2.2.1 _).mono ?_
        rintro e w8 ⟨rfl, hB8⟩
        have hBB := hB8
        replace hXw := box_still hXw hBB
        replace hXx := box_still hXx hBB
        replace hXy := box_still hXy hBB
        replace hXu := box_still hXu hBB
        replace HT := Lib.hid (bt2 HT.out hBB)
        clear hBB hB8
        rw [HTX.out]
        go_wp2_with fail
        all_goals (go_ret; exact ⟨by first | rfl | simp, HT.out⟩)
      · have HY : Hid (rdE t.data.toList = .returned (.tuple #[.agg #[.bool false, .int .u64 0, .int .u64 0], .bool false])) := Lib.hid (rdE_no (fun z h => hz ⟨z, h⟩))
        clear hz
        go_wp2_with fail
        refine (implReadWide t (by omega) _).mono ?_
        rintro e w5 ⟨rfl, hB5⟩
        have hBB := hB5
        replace hXw := box_still hXw hBB
        replace hXx := box_still hXx hBB
        replace HT := Lib.hid (bt2 HT.out hBB)
        clear hBB hB5
        rw [HY.out]
        go_wp2_with fail
        refine (specReadWide t _).mono ?_
        rintro e w6 ⟨rfl, hB6⟩
        have hXy := box_kept hB6
        have hBB := box_below hB6
        replace hXw := box_still hXw hBB
        replace hXx := box_still hXx hBB
        replace HT := Lib.hid (bt2 HT.out hBB)
        clear hBB hB6
        rw [HY.out]
        have hcw0 : w6.cell? ⟨w1.heap.size, 0, none⟩ = some (.bool n0) := cell_blk hXw 0
        have hcw1 : w6.cell? ⟨w1.heap.size, 1, none⟩ = some (.int .u64 h0) := cell_blk hXw 1
        have hcw2 : w6.cell? ⟨w1.heap.size, 2, none⟩ = some (.int .u64 l0) := cell_blk hXw 2
        have hltw : w1.heap.size < w6.heap.size := blk_ltW hXw
        go_wp2_with fail
        clear hcw0 hcw1 hcw2 hltw
        refine (specWideOk n0 h0 l0 _).mono ?_
        rintro e w7 ⟨rfl, hB7⟩
        have hXu := box_kept hB7
        have hBB := box_below hB7
        replace hXw := box_still hXw hBB
        replace hXx := box_still hXx hBB
        replace hXy := box_still hXy hBB
        replace HT := Lib.hid (bt2 HT.out hBB)
        clear hBB hB7
        rw [hk]
        have hcw0 : w7.cell? ⟨w1.heap.size, 0, none⟩ = some (.bool n0) := cell_blk hXw 0
        have hcw1 : w7.cell? ⟨w1.heap.size, 1, none⟩ = some (.int .u64 h0) := cell_blk hXw 1
        have hcw2 : w7.cell? ⟨w1.heap.size, 2, none⟩ = some (.int .u64 l0) := cell_blk hXw 2
        have hltw : w1.heap.size < w7.heap.size := blk_ltW hXw
        have hcx0 : w7.cell? ⟨w3.heap.size, 0, none⟩ = some (.bool false) := cell_blk hXx 0
        have hcx1 : w7.cell? ⟨w3.heap.size, 1, none⟩ = some (.int .u64 0) := cell_blk hXx 1
        have hcx2 : w7.cell? ⟨w3.heap.size, 2, none⟩ = some (.int .u64 0) := cell_blk hXx 2
        have hltx : w3.heap.size < w7.heap.size := blk_ltW hXx
        have hcy0 : w7.cell? ⟨w5.heap.size, 0, none⟩ = some (.bool false) := cell_blk hXy 0
        have hcy1 : w7.cell? ⟨w5.heap.size, 1, none⟩ = some (.int .u64 0) := cell_blk hXy 1
        have hcy2 : w7.cell? ⟨w5.heap.size, 2, none⟩ = some (.int .u64 0) := cell_blk hXy 2
        have hlty : w5.heap.size < w7.heap.size := blk_ltW hXy
        go_wp2_with fail
        clear hcw0 hcw1 hcw2 hltw hcx0 hcx1 hcx2 hltx hcy0 hcy1 hcy2 hlty
        all_goals (go_ret; exact ⟨by first | rfl | simp, HT.out⟩)
end Go.Proofs.Ytjmlpeapbealfaa
