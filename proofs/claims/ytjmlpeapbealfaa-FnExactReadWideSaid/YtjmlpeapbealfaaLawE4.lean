
/-
  Chapter 4: the walks of the laws that compare the program's texts of wide numbers with the reference's.
-/
import Derived.Test.YtjmlpeapbealfaaDraw3
import Derived.Test.YtjmlpeapbealfaaReadS
import Derived.Test.YtjmlpeapbealfaaI4
namespace Go.Proofs.Ytjmlpeapbealfaa
open Go.RowKit

theorem tenE_shape (n : Bool) (h l d : Int) : ∃ (r : Bool) (x y : Int) (b : Bool), tenE n h l d = .returned (.tuple #[.agg #[.bool r, .int .u64 x, .int .u64 y], .bool b]) := by
  unfold tenE
  split
  · exact fitW_shape _
  · exact ⟨_, _, _, _, rfl⟩
theorem rdE_shape (l : List UInt8) : ∃ (r : Bool) (x y : Int) (b : Bool), rdE l = .returned (.tuple #[.agg #[.bool r, .int .u64 x, .int .u64 y], .bool b]) := by
  unfold rdE
  split
  · exact ⟨_, _, _, _, rfl⟩
  · exact ⟨_, _, _, _, rfl⟩
theorem blk_lt4 {w : World} {b : Nat} {cs : Array Value} {T : TypeId} {f : Nat × Nat} (h : w.heap[b]? = some (.cells cs T f)) : b < w.heap.size := by
  rcases Nat.lt_or_ge b w.heap.size with hl | hl
  · exact hl
  · rw [Array.getElem?_eq_none hl] at h; cases h

set_option maxRecDepth 100000 in
set_option maxHeartbeats 1000000 in
theorem lawExWideText (n0 : Bool) (h0 l0 : Int) (hp0 : 0 ≤ h0) (_hq0 : h0 < 18446744073709551616) (lp0 : 0 ≤ l0) (lq0 : l0 < 18446744073709551616) (w : World) :
    Calls Try.prog 8 #[.agg #[.bool n0, .int .u64 h0, .int .u64 l0]] w fun e w' => e = .returned (.bool true) ∧ Below w.heap.size w w' := by
  go_enter Try.func8, Try.ntmps8
  go_wp2_with fail
  refine (toWide n0 h0 l0 _).mono ?_
  rintro e w1 ⟨rfl, hB1⟩
  have hXa := box_kept hB1
  have hBB := box_below hB1
  have HT := Lib.hid hBB
  clear hBB hB1
  go_wp2_with fail
  refine (specWideText n0 h0 l0 hp0 lp0 lq0 _).mono ?_
  rintro e w2 ⟨rfl, hB2⟩
  have hBB := hB2
  replace hXa := box_still hXa hBB
  replace HT := Lib.hid (bt2 HT.out hBB)
  clear hBB hB2
  have hca0 : w2.cell? ⟨w.heap.size, 0, none⟩ = some (.bool n0) := cell_blk hXa 0
  have hca1 : w2.cell? ⟨w.heap.size, 1, none⟩ = some (.int .u64 h0) := cell_blk hXa 1
  have hca2 : w2.cell? ⟨w.heap.size, 2, none⟩ = some (.int .u64 l0) := cell_blk hXa 2
  have hlta : w.heap.size < w2.heap.size := blk_lt4 hXa
  go_wp2_with fail
  clear hca0 hca1 hca2 hlta
  refine (toWide n0 h0 l0 _).mono ?_
  rintro e w3 ⟨rfl, hB3⟩
  have hBB := hB3
  replace hXa := box_still hXa hBB
  replace HT := Lib.hid (bt2 HT.out hBB)
  clear hBB hB3
  go_wp2_with fail
  refine (implWideText n0 h0 l0 hp0 lp0 lq0 _).mono ?_
  rintro e w4 ⟨rfl, hB4⟩
  have hBB := hB4
  replace hXa := box_still hXa hBB
  replace HT := Lib.hid (bt2 HT.out hBB)
  clear hBB hB4
  go_wp2_with fail
  go_ret
  exact ⟨rfl, HT.out⟩
set_option maxRecDepth 100000 in
set_option maxHeartbeats 1000000 in
theorem lawExTenTimes (n0 : Bool) (h0 l0 : Int) (d0 : Int) (hp0 : 0 ≤ h0) (hq0 : h0 < 18446744073709551616) (lp0 : 0 ≤ l0) (lq0 : l0 < 18446744073709551616) (w : World) :
    Calls Try.prog 10 #[.agg #[.bool n0, .int .u64 h0, .int .u64 l0], .int .i64 d0] w fun e w' => e = .returned (.bool true) ∧ Below w.heap.size w w' := by
  obtain ⟨n, h, l, b, hE⟩ := tenE_shape n0 h0 l0 d0
  have HE := Lib.hid hE
  clear hE
  go_enter Try.func10, Try.ntmps10
  go_wp2_with fail
  refine (toWide n0 h0 l0 _).mono ?_
  rintro e w1 ⟨rfl, hB1⟩
  have hXa := box_kept hB1
  have hBB := box_below hB1
  have HT := Lib.hid hBB
  clear hBB hB1
  go_wp2_with fail
  refine (specTenTimes n0 h0 l0 d0 hp0 hq0 lp0 lq0 _).mono ?_
  rintro e w2 ⟨rfl, hB2⟩
  have hBB := hB2
  replace hXa := box_still hXa hBB
  replace HT := Lib.hid (bt2 HT.out hBB)
  clear hBB hB2
  rw [HE.out]
  have hca0 : w2.cell? ⟨w.heap.size, 0, none⟩ = some (.bool n0) := cell_blk hXa 0
  have hca1 : w2.cell? ⟨w.heap.size, 1, none⟩ = some (.int .u64 h0) := cell_blk hXa 1
  have hca2 : w2.cell? ⟨w.heap.size, 2, none⟩ = some (.int .u64 l0) := cell_blk hXa 2
  have hlta : w.heap.size < w2.heap.size := blk_lt4 hXa
  go_wp2_with fail
  clear hca0 hca1 hca2 hlta
  refine (toWide n0 h0 l0 _).mono ?_
  rintro e w3 ⟨rfl, hB3⟩
  have hXx := box_kept hB3
  have hBB := box_below hB3
  replace hXa := box_still hXa hBB
  replace HT := Lib.hid (bt2 HT.out hBB)
  clear hBB hB3
  go_wp2_with fail
  refine (implTenTimes n0 h0 l0 d0 hp0 hq0 lp0 lq0 _).mono ?_
  rintro e w4 ⟨rfl, hB4⟩
  have hBB := hB4
  replace hXa := box_still hXa hBB
  replace hXx := box_still hXx hBB
  replace HT := Lib.hid (bt2 HT.out hBB)
  clear hBB hB4
  rw [HE.out]
  have hcx0 : w4.cell? ⟨w2.heap.size, 0, none⟩ = some (.bool n) := cell_blk hXx 0
  have hcx1 : w4.cell? ⟨w2.heap.size, 1, none⟩ = some (.int .u64 h) := cell_blk hXx 1
  have hcx2 : w4.cell? ⟨w2.heap.size, 2, none⟩ = some (.int .u64 l) := cell_blk hXx 2
  have hltx : w2.heap.size < w4.heap.size := blk_lt4 hXx
  go_wp2_with fail
  clear hcx0 hcx1 hcx2 hltx
  refine (eqWide_same n h l _).mono ?_
  rintro e w5 ⟨rfl, hB5⟩
  have hXy := box_kept hB5
  have hBB := box_below hB5
  replace hXa := box_still hXa hBB
  replace hXx := box_still hXx hBB
  replace HT := Lib.hid (bt2 HT.out hBB)
  clear hBB hB5
  go_wp2_with fail
  go_ret
  exact ⟨rfl, HT.out⟩
set_option maxRecDepth 100000 in
set_option maxHeartbeats 1000000 in
theorem lawExReadWide (s : ByteArray) (hsz : ¬ 1048576 < s.size) (w : World) :
    Calls Try.prog 9 #[.string s] w fun e w' => e = .returned (.bool true) ∧ Below w.heap.size w w' := by
  obtain ⟨n, h, l, b, hE⟩ := rdE_shape s.data.toList
  have HE := Lib.hid hE
  clear hE
  have hz : ¬ (1048576 : Int) < s.size := by omega
  go_enter Try.func9, Try.ntmps9
  go_wp2_with fail
  refine (specReadWide s _).mono ?_
  rintro e w1 ⟨rfl, hB1⟩
  have hBB := hB1
  have HT := Lib.hid hBB
  clear hBB hB1
  rw [HE.out]
  go_wp2_with fail
  refine (implReadWide s (by omega) _).mono ?_
  rintro e w2 ⟨rfl, hB2⟩
  have hXx := box_kept hB2
  have hBB := box_below hB2
  replace HT := Lib.hid (bt2 HT.out hBB)
  clear hBB hB2
  rw [HE.out]
  have hcx0 : w2.cell? ⟨w1.heap.size, 0, none⟩ = some (.bool n) := cell_blk hXx 0
  have hcx1 : w2.cell? ⟨w1.heap.size, 1, none⟩ = some (.int .u64 h) := cell_blk hXx 1
  have hcx2 : w2.cell? ⟨w1.heap.size, 2, none⟩ = some (.int .u64 l) := cell_blk hXx 2
  have hltx : w1.heap.size < w2.heap.size := blk_lt4 hXx
  go_wp2_with fail
  clear hcx0 hcx1 hcx2 hltx
  refine (eqWide_same n h l _).mono ?_
  rintro e w3 ⟨rfl, hB3⟩
  have hXy := box_kept hB3
  have hBB := box_below hB3
  replace hXx := box_still hXx hBB
  replace HT := Lib.hid (bt2 HT.out hBB)
  clear hBB hB3
  go_wp2_with fail
  go_ret
  exact ⟨rfl, HT.out⟩
theorem lawExReadWide_big (s : ByteArray) (hsz : 1048576 < s.size) (w : World) :
    Calls Try.prog 9 #[.string s] w fun e w' => e = .returned (.bool true) ∧ Below w.heap.size w w' := by
  have hz : (1048576 : Int) < s.size := by omega
  go_enter Try.func9, Try.ntmps9
  go_wp2_with fail
  go_ret
  exact ⟨rfl, Below.refl _ _⟩
theorem lawExReadWideAny (s : ByteArray) (w : World) :
    Calls Try.prog 9 #[.string s] w fun e w' => e = .returned (.bool true) ∧ Below w.heap.size w w' := by
  by_cases h : 1048576 < s.size
  · exact lawExReadWide_big s h w
  · exact lawExReadWide s h w
end Go.Proofs.Ytjmlpeapbealfaa
