
/-
  Chapter 3: the walks of the laws over drawn wide numbers.
-/
import Derived.Test.YtcgboimhmklebaaLawE3
import Derived.Deep.RegionHeld3
namespace Go.Proofs.Ytcgboimhmklebaa
open Go.RowKit

theorem wideC_int {z : Int} (_h : RoomW z) : intOfE (decide (z < 0)) ((z.natAbs : Int) / 18446744073709551616) ((z.natAbs : Int) % 18446744073709551616) = fit z := by
  by_cases k : -9223372036854775808 ≤ z ∧ z ≤ 9223372036854775807
  · rw [fit_in k.1 k.2]
    refine (intOf_yes ?_ ?_).symm
    · by_cases h : z < 0 <;> simp [h] <;> omega
    · by_cases h : z < 0 <;> simp [h] <;> omega
  · rw [fit_out k]
    refine (intOf_no ?_).symm
    by_cases h : z < 0 <;> simp [h] <;> omega
/-- A wide number of the program's as an int, or none. -/
theorem implIntOfFit (z : Int) (h : RoomW z) (w : World) :
    Calls Try.prog 18 #[wideC z] w fun e w' => e = fit z ∧ Below w.heap.size w w' := by
  refine (implIntOf _ _ _ (by omega) (by omega) (by omega) w).mono fun e w1 k => ⟨k.1.trans (wideC_int h), k.2⟩
theorem specMulWideS (w : World) (b : Nat) (x y z : Value) (p q : Int) (p0 : -9223372036854775808 ≤ p) (p1 : p ≤ 9223372036854775807) (q0 : -9223372036854775808 ≤ q) (q1 : q ≤ 9223372036854775807) (wr : World)
    (h : wr.cell? ⟨b, 0, none⟩ = some x ∧ wr.cell? ⟨b, 1, none⟩ = some y ∧ wr.cell? ⟨b, 2, none⟩ = some z ∧ Below w.heap.size w wr) :
    Calls Try.prog 19 #[.int .i64 p, .int .i64 q] wr fun e w' => e = .returned (wideC (p * q)) ∧ w'.cell? ⟨b, 0, none⟩ = some x ∧ w'.cell? ⟨b, 1, none⟩ = some y ∧ w'.cell? ⟨b, 2, none⟩ = some z ∧ Below w.heap.size w w' := by
  refine (specMulWide p q p0 p1 q0 q1 wr).mono fun e w' k => ⟨k.1, ?_, ?_, ?_, bt2 h.2.2.2 k.2⟩
  · rw [k.2.cell (World.block_lt_of_cell? wr _ h.1)]; exact h.1
  · rw [k.2.cell (World.block_lt_of_cell? wr _ h.2.1)]; exact h.2.1
  · rw [k.2.cell (World.block_lt_of_cell? wr _ h.2.2.1)]; exact h.2.2.1
theorem floorV_mul {a b : Int} (hb : b ≠ 0) : floorV (a * b) b = a := by
  unfold floorV
  split
  · exact Int.mul_ediv_cancel a hb
  · rw [← Int.mul_neg, Int.mul_ediv_cancel a (by omega)]

set_option maxRecDepth 100000 in
set_option maxHeartbeats 4000000 in
theorem lawFnProduct (w : World) (v : Value) (n : Nat) (hb : Bytes w v n) :
    Calls Try.prog 3 #[v] w fun e w' => e = .returned (.bool true) ∧ Below w.heap.size w w' := by
  by_cases hbig : 1048576 < n
  · go_enter Try.func3, Try.ntmps3
    go_wp2_with fail
    refine (big_yes w v n hb hbig).mono ?_
    rintro e w1 ⟨rfl, rfl⟩
    go_wp2_with fail
    go_ret
    exact ⟨rfl, Below.refl _ _⟩
  · go_enter Try.func3, Try.ntmps3
    go_wp2_with fail
    refine (big_no w v n hb hbig).mono ?_
    rintro e w1 ⟨rfl, rfl⟩
    go_wp2_with fail
    refine (drawMulInt w v n hb).mono ?_
    rintro e w1 ⟨⟨a, b, ha, hc, rfl⟩, hT1⟩
    obtain ⟨a0, a1⟩ := ha
    obtain ⟨c0, c1⟩ := hc
    clear hb hbig
    obtain ⟨n1, h1, l1, hE⟩ := wideC_shape (a * b)
    have HE := Lib.hid hE
    clear hE
    by_cases hp : -9223372036854775808 ≤ a * b ∧ a * b ≤ 9223372036854775807
    · have HF : Hid (fit (a * b) = _) := fit_in hp.1 hp.2
      by_cases hb : b = 0
      · subst hb
        skip
        have HT := Lib.hid hT1
        clear hT1
        go_wp2_with fail
        refine (implMulInt a 0 a0 a1 c0 c1 _).mono ?_
        rintro e w2 ⟨rfl, hB2⟩
        have hBB := hB2
        replace HT := Lib.hid (bt2 HT.out hBB)
        clear hBB hB2
        rw [HF.out]
        go_wp2_with fail
        refine (implMulWide a 0 a0 a1 c0 c1 _).mono ?_
        rintro e w3 ⟨rfl, hB3⟩
        have hBB := hB3
        replace HT := Lib.hid (bt2 HT.out hBB)
        clear hBB hB3
        rw [HE.out]
        go_wp2_with fail
        have cs := implIntOfFit (a * 0) (room_mul a0 a1 c0 c1) (w3.alloc (.cells #[.bool n1, .int .u64 h1, .int .u64 l1] 30))
        rw [HE.out, HF.out] at cs
        refine (cs).mono ?_
        rintro e w4 ⟨rfl, hB4⟩
        have hXx := box_kept hB4
        have hBB := box_below hB4
        replace HT := Lib.hid (bt2 HT.out hBB)
        clear hBB hB4
        clear cs
        have hcx0 : w4.cell? ⟨w3.heap.size, 0, none⟩ = some (.bool n1) := cell_blk hXx 0
        have hcx1 : w4.cell? ⟨w3.heap.size, 1, none⟩ = some (.int .u64 h1) := cell_blk hXx 1
        have hcx2 : w4.cell? ⟨w3.heap.size, 2, none⟩ = some (.int .u64 l1) := cell_blk hXx 2
        have hltx : w3.heap.size < w4.heap.size := blk_lt hXx
        go_wp2_with fail
        clear hcx0 hcx1 hcx2 hltx
        have hcx0 : w4.cell? ⟨w3.heap.size, 0, none⟩ = some (.bool n1) := cell_blk hXx 0
        have hcx1 : w4.cell? ⟨w3.heap.size, 1, none⟩ = some (.int .u64 h1) := cell_blk hXx 1
        have hcx2 : w4.cell? ⟨w3.heap.size, 2, none⟩ = some (.int .u64 l1) := cell_blk hXx 2
        have hltx : w3.heap.size < w4.heap.size := blk_lt hXx
        have hS : w4.cell? ⟨w3.heap.size, 0, none⟩ = some (.bool n1) ∧ w4.cell? ⟨w3.heap.size, 1, none⟩ = some (.int .u64 h1) ∧ w4.cell? ⟨w3.heap.size, 2, none⟩ = some (.int .u64 l1) ∧ Below w.heap.size w w4 := ⟨hcx0, hcx1, hcx2, HT.out⟩
        go_region_held3 (fun w' => w'.cell? ⟨w3.heap.size, 0, none⟩ = some (.bool n1) ∧ w'.cell? ⟨w3.heap.size, 1, none⟩ = some (.int .u64 h1) ∧ w'.cell? ⟨w3.heap.size, 2, none⟩ = some (.int .u64 l1) ∧ Below w.heap.size w w') (first | exact ⟨hcx0, hcx1, hcx2, HT.out.drew⟩ | exact ⟨‹_›, ‹_›, ‹_›, ‹_›⟩ | go_keep)
          (first | (go_at_call 19; refine (specMulWideS w (w3.heap.size) (.bool n1) (.int .u64 h1) (.int .u64 l1) a 0 a0 a1 c0 c1 _ ?_).mono ?_; (first | exact ⟨hcx0, hcx1, hcx2, HT.out.drew⟩ | exact ⟨‹_›, ‹_›, ‹_›, ‹_›⟩ | assumption); rintro e w5 ⟨rfl, hk0, hk1, hk2, hk3⟩; rw [HE.out]))
        go_wp2_with fail
        all_goals (go_ret; exact ⟨by first | rfl | simp, by assumption⟩)
      · have HQ : Hid (floorE (a * b) b = .returned (.tuple #[.int .i64 a, .bool true])) := by
          show floorE (a * b) b = _
          rw [floorE, if_neg hb, floorV_mul hb]
          exact fit_in a0 a1
        have HT := Lib.hid hT1
        clear hT1
        go_wp2_with fail
        refine (implMulInt a b a0 a1 c0 c1 _).mono ?_
        rintro e w2 ⟨rfl, hB2⟩
        have hBB := hB2
        replace HT := Lib.hid (bt2 HT.out hBB)
        clear hBB hB2
        rw [HF.out]
        go_wp2_with fail
        refine (implMulWide a b a0 a1 c0 c1 _).mono ?_
        rintro e w3 ⟨rfl, hB3⟩
        have hBB := hB3
        replace HT := Lib.hid (bt2 HT.out hBB)
        clear hBB hB3
        rw [HE.out]
        go_wp2_with fail
        have cs := implIntOfFit (a * b) (room_mul a0 a1 c0 c1) (w3.alloc (.cells #[.bool n1, .int .u64 h1, .int .u64 l1] 30))
        rw [HE.out, HF.out] at cs
        refine (cs).mono ?_
        rintro e w4 ⟨rfl, hB4⟩
        have hXx := box_kept hB4
        have hBB := box_below hB4
        replace HT := Lib.hid (bt2 HT.out hBB)
        clear hBB hB4
        clear cs
        have hcx0 : w4.cell? ⟨w3.heap.size, 0, none⟩ = some (.bool n1) := cell_blk hXx 0
        have hcx1 : w4.cell? ⟨w3.heap.size, 1, none⟩ = some (.int .u64 h1) := cell_blk hXx 1
        have hcx2 : w4.cell? ⟨w3.heap.size, 2, none⟩ = some (.int .u64 l1) := cell_blk hXx 2
        have hltx : w3.heap.size < w4.heap.size := blk_lt hXx
        go_wp2_with fail
        clear hcx0 hcx1 hcx2 hltx
        have hcx0 : w4.cell? ⟨w3.heap.size, 0, none⟩ = some (.bool n1) := cell_blk hXx 0
        have hcx1 : w4.cell? ⟨w3.heap.size, 1, none⟩ = some (.int .u64 h1) := cell_blk hXx 1
        have hcx2 : w4.cell? ⟨w3.heap.size, 2, none⟩ = some (.int .u64 l1) := cell_blk hXx 2
        have hltx : w3.heap.size < w4.heap.size := blk_lt hXx
        have hS : w4.cell? ⟨w3.heap.size, 0, none⟩ = some (.bool n1) ∧ w4.cell? ⟨w3.heap.size, 1, none⟩ = some (.int .u64 h1) ∧ w4.cell? ⟨w3.heap.size, 2, none⟩ = some (.int .u64 l1) ∧ Below w.heap.size w w4 := ⟨hcx0, hcx1, hcx2, HT.out⟩
        go_region_held3 (fun w' => w'.cell? ⟨w3.heap.size, 0, none⟩ = some (.bool n1) ∧ w'.cell? ⟨w3.heap.size, 1, none⟩ = some (.int .u64 h1) ∧ w'.cell? ⟨w3.heap.size, 2, none⟩ = some (.int .u64 l1) ∧ Below w.heap.size w w') (first | exact ⟨hcx0, hcx1, hcx2, HT.out.drew⟩ | exact ⟨‹_›, ‹_›, ‹_›, ‹_›⟩ | go_keep)
          (first | (go_at_call 19; refine (specMulWideS w (w3.heap.size) (.bool n1) (.int .u64 h1) (.int .u64 l1) a b a0 a1 c0 c1 _ ?_).mono ?_; (first | exact ⟨hcx0, hcx1, hcx2, HT.out.drew⟩ | exact ⟨‹_›, ‹_›, ‹_›, ‹_›⟩ | assumption); rintro e w5 ⟨rfl, hk0, hk1, hk2, hk3⟩; rw [HE.out]))
        go_wp2_with fail
        all_goals first
          | (refine (implFloorDiv (a * b) b hp.1 hp.2 c0 c1 _).mono ?_
             rintro e w6 ⟨rfl, hB6⟩
             rw [HQ.out]
             have HT6 := Lib.hid (bt2 (by assumption) hB6)
             clear hB6
             go_wp2_with fail
             all_goals (go_ret; exact ⟨by first | rfl | simp, HT6.out⟩))
          | skip
    · have HF : Hid (fit (a * b) = _) := fit_out hp
      clear hp
      have HT := Lib.hid hT1
      clear hT1
      go_wp2_with fail
      refine (implMulInt a b a0 a1 c0 c1 _).mono ?_
      rintro e w2 ⟨rfl, hB2⟩
      have hBB := hB2
      replace HT := Lib.hid (bt2 HT.out hBB)
      clear hBB hB2
      rw [HF.out]
      go_wp2_with fail
      refine (implMulWide a b a0 a1 c0 c1 _).mono ?_
      rintro e w3 ⟨rfl, hB3⟩
      have hBB := hB3
      replace HT := Lib.hid (bt2 HT.out hBB)
      clear hBB hB3
      rw [HE.out]
      go_wp2_with fail
      have cs := implIntOfFit (a * b) (room_mul a0 a1 c0 c1) (w3.alloc (.cells #[.bool n1, .int .u64 h1, .int .u64 l1] 30))
      rw [HE.out, HF.out] at cs
      refine (cs).mono ?_
      rintro e w4 ⟨rfl, hB4⟩
      have hXx := box_kept hB4
      have hBB := box_below hB4
      replace HT := Lib.hid (bt2 HT.out hBB)
      clear hBB hB4
      clear cs
      have hcx0 : w4.cell? ⟨w3.heap.size, 0, none⟩ = some (.bool n1) := cell_blk hXx 0
      have hcx1 : w4.cell? ⟨w3.heap.size, 1, none⟩ = some (.int .u64 h1) := cell_blk hXx 1
      have hcx2 : w4.cell? ⟨w3.heap.size, 2, none⟩ = some (.int .u64 l1) := cell_blk hXx 2
      have hltx : w3.heap.size < w4.heap.size := blk_lt hXx
      go_wp2_with fail
      clear hcx0 hcx1 hcx2 hltx
      have hcx0 : w4.cell? ⟨w3.heap.size, 0, none⟩ = some (.bool n1) := cell_blk hXx 0
      have hcx1 : w4.cell? ⟨w3.heap.size, 1, none⟩ = some (.int .u64 h1) := cell_blk hXx 1
      have hcx2 : w4.cell? ⟨w3.heap.size, 2, none⟩ = some (.int .u64 l1) := cell_blk hXx 2
      have hltx : w3.heap.size < w4.heap.size := blk_lt hXx
      have hS : w4.cell? ⟨w3.heap.size, 0, none⟩ = some (.bool n1) ∧ w4.cell? ⟨w3.heap.size, 1, none⟩ = some (.int .u64 h1) ∧ w4.cell? ⟨w3.heap.size, 2, none⟩ = some (.int .u64 l1) ∧ Below w.heap.size w w4 := ⟨hcx0, hcx1, hcx2, HT.out⟩
      go_region_held3 (fun w' => w'.cell? ⟨w3.heap.size, 0, none⟩ = some (.bool n1) ∧ w'.cell? ⟨w3.heap.size, 1, none⟩ = some (.int .u64 h1) ∧ w'.cell? ⟨w3.heap.size, 2, none⟩ = some (.int .u64 l1) ∧ Below w.heap.size w w') (first | exact ⟨hcx0, hcx1, hcx2, HT.out.drew⟩ | exact ⟨‹_›, ‹_›, ‹_›, ‹_›⟩ | go_keep)
        (first | (go_at_call 19; refine (specMulWideS w (w3.heap.size) (.bool n1) (.int .u64 h1) (.int .u64 l1) a b a0 a1 c0 c1 _ ?_).mono ?_; (first | exact ⟨hcx0, hcx1, hcx2, HT.out.drew⟩ | exact ⟨‹_›, ‹_›, ‹_›, ‹_›⟩ | assumption); rintro e w5 ⟨rfl, hk0, hk1, hk2, hk3⟩; rw [HE.out]))
      go_wp2_with fail
      all_goals (go_ret; exact ⟨by first | rfl | simp, by assumption⟩)
end Go.Proofs.Ytcgboimhmklebaa
