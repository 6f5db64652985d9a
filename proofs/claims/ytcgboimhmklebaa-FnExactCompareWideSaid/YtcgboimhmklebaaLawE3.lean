
/-
  Chapter 3: the walks of the laws that compare the program's wide numbers with the reference's.
-/
import Derived.Test.YtcgboimhmklebaaDraw3
import Derived.Test.YtcgboimhmklebaaImpF
namespace Go.Proofs.Ytcgboimhmklebaa
open Go.RowKit

theorem blk_lt {w : World} {b : Nat} {cs : Array Value} {T : TypeId} {f : Nat × Nat} (h : w.heap[b]? = some (.cells cs T f)) : b < w.heap.size := by
  rcases Nat.lt_or_ge b w.heap.size with hl | hl
  · exact hl
  · rw [Array.getElem?_eq_none hl] at h; cases h
theorem wideC_shape (z : Int) : ∃ (n : Bool) (h l : Int), wideC z = .agg #[.bool n, .int .u64 h, .int .u64 l] := ⟨_, _, _, rfl⟩
theorem scaleE_shape (n : Bool) (h l k : Int) : ∃ (r : Bool) (x y : Int) (b : Bool), scaleE n h l k = .returned (.tuple #[.agg #[.bool r, .int .u64 x, .int .u64 y], .bool b]) := by
  unfold scaleE
  split
  · exact fitW_shape _
  · exact ⟨_, _, _, _, rfl⟩
theorem intOfE_shape (n : Bool) (h l : Int) : ∃ (x : Int) (b : Bool), intOfE n h l = .returned (.tuple #[.int .i64 x, .bool b]) := by
  unfold intOfE
  split
  · exact ⟨_, _, rfl⟩
  · exact ⟨_, _, rfl⟩

set_option maxRecDepth 100000 in
set_option maxHeartbeats 1000000 in
theorem lawExWideOk (n0 : Bool) (h0 l0 : Int) (hp0 : 0 ≤ h0) (lp0 : 0 ≤ l0) (w : World) :
    Calls Try.prog 6 #[.agg #[.bool n0, .int .u64 h0, .int .u64 l0]] w fun e w' => e = .returned (.bool true) ∧ Below w.heap.size w w' := by
  go_enter Try.func6, Try.ntmps6
  go_wp2_with fail
  refine (toWide n0 h0 l0 _).mono ?_
  rintro e w1 ⟨rfl, hB1⟩
  have hXa := box_kept hB1
  have hBB := box_below hB1
  have HT := Lib.hid hBB
  clear hBB hB1
  go_wp2_with fail
  refine (specWideOk n0 h0 l0 _).mono ?_
  rintro e w2 ⟨rfl, hB2⟩
  have hBB := hB2
  replace hXa := box_still hXa hBB
  replace HT := Lib.hid (bt2 HT.out hBB)
  clear hBB hB2
  have hca0 : w2.cell? ⟨w.heap.size, 0, none⟩ = some (.bool n0) := cell_blk hXa 0
  have hca1 : w2.cell? ⟨w.heap.size, 1, none⟩ = some (.int .u64 h0) := cell_blk hXa 1
  have hca2 : w2.cell? ⟨w.heap.size, 2, none⟩ = some (.int .u64 l0) := cell_blk hXa 2
  have hlta : w.heap.size < w2.heap.size := blk_lt hXa
  go_wp2_with fail
  clear hca0 hca1 hca2 hlta
  refine (toWide n0 h0 l0 _).mono ?_
  rintro e w3 ⟨rfl, hB3⟩
  have hBB := hB3
  replace hXa := box_still hXa hBB
  replace HT := Lib.hid (bt2 HT.out hBB)
  clear hBB hB3
  go_wp2_with fail
  refine (implWideOk n0 h0 l0 hp0 lp0 _).mono ?_
  rintro e w4 ⟨rfl, hB4⟩
  have hBB := hB4
  replace hXa := box_still hXa hBB
  replace HT := Lib.hid (bt2 HT.out hBB)
  clear hBB hB4
  go_wp2_with fail
  go_ret
  exact ⟨rfl, HT.out⟩
set_option maxRecDepth 100000 in
set_option maxHeartbeats 1000000 in
theorem lawExIntOf (n0 : Bool) (h0 l0 : Int) (hp0 : 0 ≤ h0) (lp0 : 0 ≤ l0) (lq0 : l0 < 18446744073709551616) (w : World) :
    Calls Try.prog 8 #[.agg #[.bool n0, .int .u64 h0, .int .u64 l0]] w fun e w' => e = .returned (.bool true) ∧ Below w.heap.size w w' := by
  obtain ⟨x, b, hE⟩ := intOfE_shape n0 h0 l0
  have HE := Lib.hid hE
  clear hE
  go_enter Try.func8, Try.ntmps8
  go_wp2_with fail
  refine (toWide n0 h0 l0 _).mono ?_
  rintro e w1 ⟨rfl, hB1⟩
  have hXa := box_kept hB1
  have hBB := box_below hB1
  have HT := Lib.hid hBB
  clear hBB hB1
  go_wp2_with fail
  refine (specIntOf n0 h0 l0 hp0 lp0 lq0 _).mono ?_
  rintro e w2 ⟨rfl, hB2⟩
  have hBB := hB2
  replace hXa := box_still hXa hBB
  replace HT := Lib.hid (bt2 HT.out hBB)
  clear hBB hB2
  rw [HE.out]
  have hca0 : w2.cell? ⟨w.heap.size, 0, none⟩ = some (.bool n0) := cell_blk hXa 0
  have hca1 : w2.cell? ⟨w.heap.size, 1, none⟩ = some (.int .u64 h0) := cell_blk hXa 1
  have hca2 : w2.cell? ⟨w.heap.size, 2, none⟩ = some (.int .u64 l0) := cell_blk hXa 2
  have hlta : w.heap.size < w2.heap.size := blk_lt hXa
  go_wp2_with fail
  clear hca0 hca1 hca2 hlta
  refine (toWide n0 h0 l0 _).mono ?_
  rintro e w3 ⟨rfl, hB3⟩
  have hBB := hB3
  replace hXa := box_still hXa hBB
  replace HT := Lib.hid (bt2 HT.out hBB)
  clear hBB hB3
  go_wp2_with fail
  refine (implIntOf n0 h0 l0 hp0 lp0 lq0 _).mono ?_
  rintro e w4 ⟨rfl, hB4⟩
  have hBB := hB4
  replace hXa := box_still hXa hBB
  replace HT := Lib.hid (bt2 HT.out hBB)
  clear hBB hB4
  rw [HE.out]
  go_wp2_with fail
  go_ret
  exact ⟨rfl, HT.out⟩
set_option maxRecDepth 100000 in
set_option maxHeartbeats 1000000 in
theorem lawExNegWide (n0 : Bool) (h0 l0 : Int) (hp0 : 0 ≤ h0) (lp0 : 0 ≤ l0) (w : World) :
    Calls Try.prog 10 #[.agg #[.bool n0, .int .u64 h0, .int .u64 l0]] w fun e w' => e = .returned (.bool true) ∧ Below w.heap.size w w' := by
  go_enter Try.func10, Try.ntmps10
  go_wp2_with fail
  refine (toWide n0 h0 l0 _).mono ?_
  rintro e w1 ⟨rfl, hB1⟩
  have hXa := box_kept hB1
  have hBB := box_below hB1
  have HT := Lib.hid hBB
  clear hBB hB1
  go_wp2_with fail
  refine (specNegWide n0 h0 l0 _).mono ?_
  rintro e w2 ⟨rfl, hB2⟩
  have hBB := hB2
  replace hXa := box_still hXa hBB
  replace HT := Lib.hid (bt2 HT.out hBB)
  clear hBB hB2
  have hca0 : w2.cell? ⟨w.heap.size, 0, none⟩ = some (.bool n0) := cell_blk hXa 0
  have hca1 : w2.cell? ⟨w.heap.size, 1, none⟩ = some (.int .u64 h0) := cell_blk hXa 1
  have hca2 : w2.cell? ⟨w.heap.size, 2, none⟩ = some (.int .u64 l0) := cell_blk hXa 2
  have hlta : w.heap.size < w2.heap.size := blk_lt hXa
  go_wp2_with fail
  clear hca0 hca1 hca2 hlta
  refine (toWide n0 h0 l0 _).mono ?_
  rintro e w3 ⟨rfl, hB3⟩
  have hXx := box_kept hB3
  have hBB := box_below hB3
  replace hXa := box_still hXa hBB
  replace HT := Lib.hid (bt2 HT.out hBB)
  clear hBB hB3
  go_wp2_with fail
  refine (implNegWide n0 h0 l0 hp0 lp0 _).mono ?_
  rintro e w4 ⟨rfl, hB4⟩
  have hBB := hB4
  replace hXa := box_still hXa hBB
  replace hXx := box_still hXx hBB
  replace HT := Lib.hid (bt2 HT.out hBB)
  clear hBB hB4
  have hcx0 : w4.cell? ⟨w2.heap.size, 0, none⟩ = some (.bool (negV n0 h0 l0)) := cell_blk hXx 0
  have hcx1 : w4.cell? ⟨w2.heap.size, 1, none⟩ = some (.int .u64 h0) := cell_blk hXx 1
  have hcx2 : w4.cell? ⟨w2.heap.size, 2, none⟩ = some (.int .u64 l0) := cell_blk hXx 2
  have hltx : w2.heap.size < w4.heap.size := blk_lt hXx
  go_wp2_with fail
  clear hcx0 hcx1 hcx2 hltx
  refine (eqWide_same (negV n0 h0 l0) h0 l0 _).mono ?_
  rintro e w5 ⟨rfl, hB5⟩
  have hXy := box_kept hB5
  have hBB := box_below hB5
  replace hXa := box_still hXa hBB
  replace hXx := box_still hXx hBB
  replace HT := Lib.hid (bt2 HT.out hBB)
  clear hBB hB5
  go_wp2_with fail
  go_ret
  exact ⟨rfl, HT.out⟩
set_option maxRecDepth 100000 in
set_option maxHeartbeats 1000000 in
theorem lawExMulWide (a b : Int) (a0 : -9223372036854775808 ≤ a) (a1 : a ≤ 9223372036854775807) (b0 : -9223372036854775808 ≤ b) (b1 : b ≤ 9223372036854775807) (w : World) :
    Calls Try.prog 9 #[.int .i64 a, .int .i64 b] w fun e w' => e = .returned (.bool true) ∧ Below w.heap.size w w' := by
  obtain ⟨n, h, l, hE⟩ := wideC_shape (a * b)
  have HE := Lib.hid hE
  clear hE
  go_enter Try.func9, Try.ntmps9
  go_wp2_with fail
  refine (specMulWide a b a0 a1 b0 b1 _).mono ?_
  rintro e w1 ⟨rfl, hB1⟩
  have hBB := hB1
  have HT := Lib.hid hBB
  clear hBB hB1
  rw [HE.out]
  go_wp2_with fail
  refine (implMulWide a b a0 a1 b0 b1 _).mono ?_
  rintro e w2 ⟨rfl, hB2⟩
  have hXx := box_kept hB2
  have hBB := box_below hB2
  replace HT := Lib.hid (bt2 HT.out hBB)
  clear hBB hB2
  rw [HE.out]
  have hcx0 : w2.cell? ⟨w1.heap.size, 0, none⟩ = some (.bool n) := cell_blk hXx 0
  have hcx1 : w2.cell? ⟨w1.heap.size, 1, none⟩ = some (.int .u64 h) := cell_blk hXx 1
  have hcx2 : w2.cell? ⟨w1.heap.size, 2, none⟩ = some (.int .u64 l) := cell_blk hXx 2
  have hltx : w1.heap.size < w2.heap.size := blk_lt hXx
  go_wp2_with fail
  clear hcx0 hcx1 hcx2 hltx
  refine (eqWide_same n h l _).mono ?_
  rintro e w3 ⟨rfl, hB3⟩
  have hXy := box_kept hB3
  have hBB := box_below hB3
  replace hXx := box_still hXx hBB
  replace HT := Lib.hid (bt2 HT.out hBB)
  clear hBB hB3
  go_wp2_with fail
  go_ret
  exact ⟨rfl, HT.out⟩
set_option maxRecDepth 100000 in
set_option maxHeartbeats 1000000 in
theorem lawExWideOf (a : Int) (a0 : -9223372036854775808 ≤ a) (a1 : a ≤ 9223372036854775807) (w : World) :
    Calls Try.prog 7 #[.int .i64 a] w fun e w' => e = .returned (.bool true) ∧ Below w.heap.size w w' := by
  obtain ⟨n, h, l, hE⟩ := wideC_shape a
  have HE := Lib.hid hE
  clear hE
  go_enter Try.func7, Try.ntmps7
  go_wp2_with fail
  refine (specWideOfW a a0 a1 _).mono ?_
  rintro e w1 ⟨rfl, hB1⟩
  have hBB := hB1
  have HT := Lib.hid hBB
  clear hBB hB1
  rw [HE.out]
  go_wp2_with fail
  refine (implWideOfW a a0 a1 _).mono ?_
  rintro e w2 ⟨rfl, hB2⟩
  have hXx := box_kept hB2
  have hBB := box_below hB2
  replace HT := Lib.hid (bt2 HT.out hBB)
  clear hBB hB2
  rw [HE.out]
  have hcx0 : w2.cell? ⟨w1.heap.size, 0, none⟩ = some (.bool n) := cell_blk hXx 0
  have hcx1 : w2.cell? ⟨w1.heap.size, 1, none⟩ = some (.int .u64 h) := cell_blk hXx 1
  have hcx2 : w2.cell? ⟨w1.heap.size, 2, none⟩ = some (.int .u64 l) := cell_blk hXx 2
  have hltx : w1.heap.size < w2.heap.size := blk_lt hXx
  go_wp2_with fail
  clear hcx0 hcx1 hcx2 hltx
  refine (eqWide_same n h l _).mono ?_
  rintro e w3 ⟨rfl, hB3⟩
  have hXy := box_kept hB3
  have hBB := box_below hB3
  replace hXx := box_still hXx hBB
  replace HT := Lib.hid (bt2 HT.out hBB)
  clear hBB hB3
  go_wp2_with fail
  go_ret
  exact ⟨rfl, HT.out⟩
set_option maxRecDepth 100000 in
set_option maxHeartbeats 1000000 in
theorem lawExScaleWide (n0 : Bool) (h0 l0 : Int) (k : Int) (hp0 : 0 ≤ h0) (hq0 : h0 < 18446744073709551616) (lp0 : 0 ≤ l0) (lq0 : l0 < 18446744073709551616) (k0 : -9223372036854775808 ≤ k) (k1 : k ≤ 9223372036854775807) (w : World) :
    Calls Try.prog 13 #[.agg #[.bool n0, .int .u64 h0, .int .u64 l0], .int .i64 k] w fun e w' => e = .returned (.bool true) ∧ Below w.heap.size w w' := by
  obtain ⟨n, h, l, b, hE⟩ := scaleE_shape n0 h0 l0 k
  have HE := Lib.hid hE
  clear hE
  go_enter Try.func13, Try.ntmps13
  go_wp2_with fail
  refine (toWide n0 h0 l0 _).mono ?_
  rintro e w1 ⟨rfl, hB1⟩
  have hXa := box_kept hB1
  have hBB := box_below hB1
  have HT := Lib.hid hBB
  clear hBB hB1
  go_wp2_with fail
  refine (specScaleWide n0 h0 l0 k hp0 hq0 lp0 lq0 k0 k1 _).mono ?_
  rintro e w2 ⟨rfl, hB2⟩
  have hBB := hB2
  replace hXa := box_still hXa hBB
  replace HT := Lib.hid (bt2 HT.out hBB)
  clear hBB hB2
  rw [HE.out]
  have hca0 : w2.cell? ⟨w.heap.size, 0, none⟩ = some (.bool n0) := cell_blk hXa 0
  have hca1 : w2.cell? ⟨w.heap.size, 1, none⟩ = some (.int .u64 h0) := cell_blk hXa 1
  have hca2 : w2.cell? ⟨w.heap.size, 2, none⟩ = some (.int .u64 l0) := cell_blk hXa 2
  have hlta : w.heap.size < w2.heap.size := blk_lt hXa
  go_wp2_with fail
  clear hca0 hca1 hca2 hlta
  refine (toWide n0 h0 l0 _).mono ?_
  rintro e w3 ⟨rfl, hB3⟩
  have hXx := box_kept hB3
  have hBB := box_below hB3
  replace hXa := box_still hXa hBB
  replace HT := Lib.hid (bt2 HT.out hBB)
  clear hBB hB3
  go_wp2_with fail
  refine (implScaleWide n0 h0 l0 k hp0 hq0 lp0 lq0 k0 k1 _).mono ?_
  rintro e w4 ⟨rfl, hB4⟩
  have hBB := hB4
  replace hXa := box_still hXa hBB
  replace hXx := box_still hXx hBB
  replace HT := Lib.hid (bt2 HT.out hBB)
  clear hBB hB4
  rw [HE.out]
  have hcx0 : w4.cell? ⟨w2.heap.size, 0, none⟩ = some (.bool n) := cell_blk hXx 0
  have hcx1 : w4.cell? ⟨w2.heap.size, 1, none⟩ = some (.int .u64 h) := cell_blk hXx 1
  have hcx2 : w4.cell? ⟨w2.heap.size, 2, none⟩ = some (.int .u64 l) := cell_blk hXx 2
  have hltx : w2.heap.size < w4.heap.size := blk_lt hXx
  go_wp2_with fail
  clear hcx0 hcx1 hcx2 hltx
  refine (eqWide_same n h l _).mono ?_
  rintro e w5 ⟨rfl, hB5⟩
  have hXy := box_kept hB5
  have hBB := box_below hB5
  replace hXa := box_still hXa hBB
  replace hXx := box_still hXx hBB
  replace HT := Lib.hid (bt2 HT.out hBB)
  clear hBB hB5
  go_wp2_with fail
  go_ret
  exact ⟨rfl, HT.out⟩
end Go.Proofs.Ytcgboimhmklebaa
