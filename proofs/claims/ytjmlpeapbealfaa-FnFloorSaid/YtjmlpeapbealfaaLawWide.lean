
/-
  Chapter 4: the walk of the law on sums and differences of wide numbers.
-/
import Derived.Test.YtjmlpeapbealfaaDraw4
import Derived.Test.YtjmlpeapbealfaaISub
namespace Go.Proofs.Ytjmlpeapbealfaa
open Go.RowKit

theorem addE_comm (n : Bool) (h l : Int) (m : Bool) (k j : Int) : addE m k j n h l = addE n h l m k j := by
  unfold addE
  by_cases a : okV n h l = true <;> by_cases b : okV m k j = true <;> simp [a, b, Int.add_comm]
theorem wideC_of_ok {n : Bool} {h l : Int} (h0 : 0 ≤ h) (l0 : 0 ≤ l) (l1 : l < 18446744073709551616) (a : okV n h l = true) : wideC (sv n (h * 18446744073709551616 + l)) = .agg #[.bool n, .int .u64 h, .int .u64 l] :=
  (wideC_eq h0 l0 l1 (okV_yes a).2 rfl).symm
theorem addE_false {n : Bool} {h l : Int} {m : Bool} {k j : Int} {r : Bool} {x y : Int} (e : addE n h l m k j = .returned (.tuple #[.agg #[.bool r, .int .u64 x, .int .u64 y], .bool false])) : r = false ∧ x = 0 ∧ y = 0 := by
  unfold addE at e
  split at e
  · unfold fitW at e
    split at e
    · simp at e
    · simp at e; obtain ⟨a, b, c⟩ := e; exact ⟨by simpa using a, by omega, by omega⟩
  · simp at e; obtain ⟨a, b, c⟩ := e; exact ⟨by simpa using a, by omega, by omega⟩
theorem addE_true {n : Bool} {h l : Int} {m : Bool} {k j : Int} {r : Bool} {x y : Int} (e : addE n h l m k j = .returned (.tuple #[.agg #[.bool r, .int .u64 x, .int .u64 y], .bool true])) :
    okV n h l = true ∧ okV m k j = true ∧ RoomW (sv n (h * 18446744073709551616 + l) + sv m (k * 18446744073709551616 + j)) ∧ wideC (sv n (h * 18446744073709551616 + l) + sv m (k * 18446744073709551616 + j)) = .agg #[.bool r, .int .u64 x, .int .u64 y] := by
  unfold addE at e
  split at e
  · rename_i a
    unfold fitW at e
    split at e
    · rename_i hr
      simp only [Ending.returned.injEq, Value.tuple.injEq, Array.mk.injEq, List.cons.injEq, and_true] at e
      exact ⟨a.1, a.2, hr, e⟩
    · simp at e
  · simp at e
theorem negV_sv {n : Bool} {h l : Int} (h0 : 0 ≤ h) (l0 : 0 ≤ l) (a : okV n h l = true) : sv (negV n h l) (h * 18446744073709551616 + l) = -sv n (h * 18446744073709551616 + l) := by
  rw [negV_ok h0 l0 a, sv_sgV h0 l0]
  cases n <;> simp [sv]
theorem negV_okV {n : Bool} {h l : Int} (h0 : 0 ≤ h) (l0 : 0 ≤ l) (a : okV n h l = true) : okV (negV n h l) h l = true := by
  rw [negV_ok h0 l0 a]
  exact okV_mk (okV_yes a).1 (sgV_pos h0 l0)
theorem wideC_okV {z : Int} {n : Bool} {h l : Int} (hr : RoomW z) (e : wideC z = .agg #[.bool n, .int .u64 h, .int .u64 l]) : okV n h l = true ∧ sv n (h * 18446744073709551616 + l) = z := by
  simp only [wideC, Value.agg.injEq, Array.mk.injEq, List.cons.injEq, Value.bool.injEq, Value.int.injEq, and_true, true_and] at e
  obtain ⟨e0, e1, e2⟩ := e
  rw [← e0, ← e1, ← e2]
  exact ⟨wideC_ok hr, wideC_sv z⟩
theorem sub_back {n : Bool} {h l : Int} {m : Bool} {k j : Int} {r : Bool} {x y : Int} (h0 : 0 ≤ h) (l0 : 0 ≤ l) (l1 : l < 18446744073709551616) (k0 : 0 ≤ k) (j0 : 0 ≤ j)
    (e : addE n h l m k j = .returned (.tuple #[.agg #[.bool r, .int .u64 x, .int .u64 y], .bool true])) :
    addE r x y (negV m k j) k j = .returned (.tuple #[.agg #[.bool n, .int .u64 h, .int .u64 l], .bool true]) := by
  obtain ⟨a, b, hr, hw⟩ := addE_true e
  obtain ⟨c, d⟩ := wideC_okV hr hw
  rw [addE, if_pos ⟨c, negV_okV k0 j0 b⟩, d, negV_sv k0 j0 b]
  rw [show sv n (h * 18446744073709551616 + l) + sv m (k * 18446744073709551616 + j) + -sv m (k * 18446744073709551616 + j) = sv n (h * 18446744073709551616 + l) by omega]
  have hrn : RoomW (sv n (h * 18446744073709551616 + l)) := by
    have := (okV_yes a).1
    unfold RoomW
    rw [sv_abs n (by omega)]
    omega
  rw [fitW_in hrn, wideC_of_ok h0 l0 l1 a]
theorem blk_ltW {w : World} {b : Nat} {cs : Array Value} {T : TypeId} {f : Nat × Nat} (h : w.heap[b]? = some (.cells cs T f)) : b < w.heap.size := by
  rcases Nat.lt_or_ge b w.heap.size with hl | hl
  · exact hl
  · rw [Array.getElem?_eq_none hl] at h; cases h

set_option maxRecDepth 100000 in
set_option maxHeartbeats 4000000 in
theorem lawFnWide (w : World) (v : Value) (n : Nat) (hb : Bytes w v n) :
    Calls Try.prog 4 #[v] w fun e w' => e = .returned (.bool true) ∧ Below w.heap.size w w' := by
  by_cases hbig : 1048576 < n
  · go_enter Try.func4, Try.ntmps4
    go_wp2_with fail
    refine (big_yes w v n hb hbig).mono ?_
    rintro e w1 ⟨rfl, rfl⟩
    go_wp2_with fail
    go_ret
    exact ⟨rfl, Below.refl _ _⟩
  · go_enter Try.func4, Try.ntmps4
    go_wp2_with fail
    refine (big_no w v n hb hbig).mono ?_
    rintro e w1 ⟨rfl, rfl⟩
    go_wp2_with fail
    refine (drawAddWide w v n hb).mono ?_
    rintro e w1 ⟨⟨n0, h0, l0, n1, h1, l1, ⟨hp0, hq0⟩, ⟨lp0, lq0⟩, ⟨hp1, hq1⟩, ⟨lp1, lq1⟩, rfl⟩, hB1⟩
    have hBB := hB1
    have HT := Lib.hid hBB
    clear hBB hB1
    obtain ⟨n2, h2, l2, b, hE⟩ := addE_shape n0 h0 l0 n1 h1 l1
    have HE := Lib.hid hE
    have HF := Lib.hid ((addE_comm n0 h0 l0 n1 h1 l1).trans hE)
    clear hE hb hbig
    go_wp2_with fail
    refine (implAddWide n0 h0 l0 n1 h1 l1 hp0 hp1 lp0 lq0 lp1 lq1 _).mono ?_
    rintro e w2 ⟨rfl, hB2⟩
    obtain ⟨hXa, hXb, hBB, _⟩ := box2 hB2
    replace HT := Lib.hid (bt2 HT.out hBB)
    clear hBB hB2
    rw [HE.out]
    have hca0 : w2.cell? ⟨w1.heap.size, 0, none⟩ = some (.bool n0) := cell_blk hXa 0
    have hca1 : w2.cell? ⟨w1.heap.size, 1, none⟩ = some (.int .u64 h0) := cell_blk hXa 1
    have hca2 : w2.cell? ⟨w1.heap.size, 2, none⟩ = some (.int .u64 l0) := cell_blk hXa 2
    have hlta : w1.heap.size < w2.heap.size := blk_ltW hXa
    have hcb0 : w2.cell? ⟨w1.heap.size + 1, 0, none⟩ = some (.bool n1) := cell_blk hXb 0
    have hcb1 : w2.cell? ⟨w1.heap.size + 1, 1, none⟩ = some (.int .u64 h1) := cell_blk hXb 1
    have hcb2 : w2.cell? ⟨w1.heap.size + 1, 2, none⟩ = some (.int .u64 l1) := cell_blk hXb 2
    have hltb : w1.heap.size + 1 < w2.heap.size := blk_ltW hXb
    go_wp2_with fail
    clear hca0 hca1 hca2 hlta hcb0 hcb1 hcb2 hltb
    refine (implAddWide n1 h1 l1 n0 h0 l0 hp1 hp0 lp1 lq1 lp0 lq0 _).mono ?_
    rintro e w3 ⟨rfl, hB3⟩
    have hXx := box_kept hB3
    have hBB := box_below hB3
    replace hXa := box_still hXa hBB
    replace hXb := box_still hXb hBB
    replace HT := Lib.hid (bt2 HT.out hBB)
    clear hBB hB3
    rw [HF.out]
    have hca0 : w3.cell? ⟨w1.heap.size, 0, none⟩ = some (.bool n0) := cell_blk hXa 0
    have hca1 : w3.cell? ⟨w1.heap.size, 1, none⟩ = some (.int .u64 h0) := cell_blk hXa 1
    have hca2 : w3.cell? ⟨w1.heap.size, 2, none⟩ = some (.int .u64 l0) := cell_blk hXa 2
    have hlta : w1.heap.size < w3.heap.size := blk_ltW hXa
    have hcb0 : w3.cell? ⟨w1.heap.size + 1, 0, none⟩ = some (.bool n1) := cell_blk hXb 0
    have hcb1 : w3.cell? ⟨w1.heap.size + 1, 1, none⟩ = some (.int .u64 h1) := cell_blk hXb 1
    have hcb2 : w3.cell? ⟨w1.heap.size + 1, 2, none⟩ = some (.int .u64 l1) := cell_blk hXb 2
    have hltb : w1.heap.size + 1 < w3.heap.size := blk_ltW hXb
    go_wp2_with fail
    clear hca0 hca1 hca2 hlta hcb0 hcb1 hcb2 hltb
    cases b
    · obtain ⟨rfl, rfl, rfl⟩ := addE_false HE.out
      refine (specAddWide n0 h0 l0 n1 h1 l1 hp0 hp1 lp0 lq0 lp1 lq1 _).mono ?_
      rintro e w4 ⟨rfl, hB4⟩
      have hXy := box_kept hB4
      have hBB := box_below hB4
      replace hXa := box_still hXa hBB
      replace hXb := box_still hXb hBB
      replace hXx := box_still hXx hBB
      replace HT := Lib.hid (bt2 HT.out hBB)
      clear hBB hB4
      rw [HE.out]
      have hcx0 : w4.cell? ⟨w2.heap.size, 0, none⟩ = some (.bool false) := cell_blk hXx 0
      have hcx1 : w4.cell? ⟨w2.heap.size, 1, none⟩ = some (.int .u64 0) := cell_blk hXx 1
      have hcx2 : w4.cell? ⟨w2.heap.size, 2, none⟩ = some (.int .u64 0) := cell_blk hXx 2
      have hltx : w2.heap.size < w4.heap.size := blk_ltW hXx
      have hcy0 : w4.cell? ⟨w3.heap.size, 0, none⟩ = some (.bool false) := cell_blk hXy 0
      have hcy1 : w4.cell? ⟨w3.heap.size, 1, none⟩ = some (.int .u64 0) := cell_blk hXy 1
      have hcy2 : w4.cell? ⟨w3.heap.size, 2, none⟩ = some (.int .u64 0) := cell_blk hXy 2
      have hlty : w3.heap.size < w4.heap.size := blk_ltW hXy
      go_wp2_with fail
      clear hcx0 hcx1 hcx2 hltx hcy0 hcy1 hcy2 hlty
      go_ret
      exact ⟨by first | rfl | simp, HT.out.alloc HT.out.size _⟩
    · have hsb := sub_back hp0 lp0 lq0 hp1 lp1 HE.out
      obtain ⟨ok0, ok1, hr2, hw2⟩ := addE_true HE.out
      obtain ⟨ok2, _⟩ := wideC_okV hr2 hw2
      have q2 := wideC_bounds hw2
      have HS := Lib.hid hsb
      clear hsb hr2 hw2
      refine (specAddWide n0 h0 l0 n1 h1 l1 hp0 hp1 lp0 lq0 lp1 lq1 _).mono ?_
      rintro e w4 ⟨rfl, hB4⟩
      have hXy := box_kept hB4
      have hBB := box_below hB4
      replace hXa := box_still hXa hBB
      replace hXb := box_still hXb hBB
      replace hXx := box_still hXx hBB
      replace HT := Lib.hid (bt2 HT.out hBB)
      clear hBB hB4
      rw [HE.out]
      have hcb0 : w4.cell? ⟨w1.heap.size + 1, 0, none⟩ = some (.bool n1) := cell_blk hXb 0
      have hcb1 : w4.cell? ⟨w1.heap.size + 1, 1, none⟩ = some (.int .u64 h1) := cell_blk hXb 1
      have hcb2 : w4.cell? ⟨w1.heap.size + 1, 2, none⟩ = some (.int .u64 l1) := cell_blk hXb 2
      have hltb : w1.heap.size + 1 < w4.heap.size := blk_ltW hXb
      have hcx0 : w4.cell? ⟨w2.heap.size, 0, none⟩ = some (.bool n2) := cell_blk hXx 0
      have hcx1 : w4.cell? ⟨w2.heap.size, 1, none⟩ = some (.int .u64 h2) := cell_blk hXx 1
      have hcx2 : w4.cell? ⟨w2.heap.size, 2, none⟩ = some (.int .u64 l2) := cell_blk hXx 2
      have hltx : w2.heap.size < w4.heap.size := blk_ltW hXx
      have hcy0 : w4.cell? ⟨w3.heap.size, 0, none⟩ = some (.bool n2) := cell_blk hXy 0
      have hcy1 : w4.cell? ⟨w3.heap.size, 1, none⟩ = some (.int .u64 h2) := cell_blk hXy 1
      have hcy2 : w4.cell? ⟨w3.heap.size, 2, none⟩ = some (.int .u64 l2) := cell_blk hXy 2
      have hlty : w3.heap.size < w4.heap.size := blk_ltW hXy
      go_wp2_with fail
      clear hcb0 hcb1 hcb2 hltb hcx0 hcx1 hcx2 hltx hcy0 hcy1 hcy2 hlty
      refine (implSubWide n2 h2 l2 n1 h1 l1 q2.1 hp1 q2.2.1 q2.2.2.1 lp1 lq1 _).mono ?_
      rintro e w5 ⟨rfl, hB5⟩
      have hXu := box_kept hB5
      have hBB := box_below hB5
      replace hXa := box_still hXa hBB
      replace hXb := box_still hXb hBB
      replace hXx := box_still hXx hBB
      replace hXy := box_still hXy hBB
      replace HT := Lib.hid (bt2 HT.out hBB)
      clear hBB hB5
      rw [HS.out]
      have hcx0 : w5.cell? ⟨w2.heap.size, 0, none⟩ = some (.bool n2) := cell_blk hXx 0
      have hcx1 : w5.cell? ⟨w2.heap.size, 1, none⟩ = some (.int .u64 h2) := cell_blk hXx 1
      have hcx2 : w5.cell? ⟨w2.heap.size, 2, none⟩ = some (.int .u64 l2) := cell_blk hXx 2
      have hltx : w2.heap.size < w5.heap.size := blk_ltW hXx
      go_wp2_with fail
      clear hcx0 hcx1 hcx2 hltx
      refine (implWideOk n2 h2 l2 q2.1 q2.2.1 _).mono ?_
      rintro e w6 ⟨rfl, hB6⟩
      have hXz := box_kept hB6
      have hBB := box_below hB6
      replace hXa := box_still hXa hBB
      replace hXb := box_still hXb hBB
      replace hXx := box_still hXx hBB
      replace hXy := box_still hXy hBB
      replace hXu := box_still hXu hBB
      replace HT := Lib.hid (bt2 HT.out hBB)
      clear hBB hB6
      rw [ok2]
      have hcx0 : w6.cell? ⟨w2.heap.size, 0, none⟩ = some (.bool n2) := cell_blk hXx 0
      have hcx1 : w6.cell? ⟨w2.heap.size, 1, none⟩ = some (.int .u64 h2) := cell_blk hXx 1
      have hcx2 : w6.cell? ⟨w2.heap.size, 2, none⟩ = some (.int .u64 l2) := cell_blk hXx 2
      have hltx : w2.heap.size < w6.heap.size := blk_ltW hXx
      go_wp2_with fail
      clear hcx0 hcx1 hcx2 hltx
      refine (specWideOk n2 h2 l2 _).mono ?_
      rintro e w7 ⟨rfl, hB7⟩
      have hBB := hB7
      replace hXa := box_still hXa hBB
      replace hXb := box_still hXb hBB
      replace hXx := box_still hXx hBB
      replace hXy := box_still hXy hBB
      replace hXu := box_still hXu hBB
      replace hXz := box_still hXz hBB
      replace HT := Lib.hid (bt2 HT.out hBB)
      clear hBB hB7
      rw [ok2]
      have hca0 : w7.cell? ⟨w1.heap.size, 0, none⟩ = some (.bool n0) := cell_blk hXa 0
      have hca1 : w7.cell? ⟨w1.heap.size, 1, none⟩ = some (.int .u64 h0) := cell_blk hXa 1
      have hca2 : w7.cell? ⟨w1.heap.size, 2, none⟩ = some (.int .u64 l0) := cell_blk hXa 2
      have hlta : w1.heap.size < w7.heap.size := blk_ltW hXa
      have hcz0 : w7.cell? ⟨w5.heap.size, 0, none⟩ = some (.bool n0) := cell_blk hXz 0
      have hcz1 : w7.cell? ⟨w5.heap.size, 1, none⟩ = some (.int .u64 h0) := cell_blk hXz 1
      have hcz2 : w7.cell? ⟨w5.heap.size, 2, none⟩ = some (.int .u64 l0) := cell_blk hXz 2
      have hltz : w5.heap.size < w7.heap.size := blk_ltW hXz
      go_wp2_with fail
      all_goals (go_ret; exact ⟨by first | rfl | simp, HT.out⟩)
end Go.Proofs.Ytjmlpeapbealfaa
