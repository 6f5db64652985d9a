
/-
  A wide number drawn, and what the draw leaves alone.
-/
import Derived.Test.YtapdocfifgnjgaaDoorWideD
namespace Go.Proofs.YtapdocfifgnjgaaDoor
open Go.RowKit

theorem grown_still {w w' : World} {r : Option Nat} (h : Below w.heap.size w w') : w.grownBy w' r := ⟨h.os, h.tape, h.output, h.size, fun i hi _ => h.block i hi⟩
theorem grown_alloc {w w1 : World} {r : Option Nat} (h : w.grownBy w1 r) (o : Obj) : w.grownBy (w1.alloc o) r := grownBy_trans h (grownBy_alloc w1 o r)
theorem grown_set {w w1 : World} {r : Option Nat} {b k : Nat} {x : Value} (h : w.grownBy w1 r) (hb : w.heap.size ≤ b) : w.grownBy (w1.setCell ⟨b, k, none⟩ x) r :=
  ⟨h.os, h.tape, h.output, Nat.le_trans h.size (by simp), fun i hi hr => (Below.heap_setCell _ _ _ _ (by simp; omega)).trans (h.block i hi hr)⟩
set_option maxRecDepth 100000 in
set_option maxHeartbeats 2000000 in
theorem l3WideG (W w : World) (p : Nat) (hc : Cur W w p) :
    Calls Tryd.prog 68 #[.pointer (some ⟨p, 0, none⟩)] w fun e w' => WideOut e ∧ Cur W w' p ∧ w.grownBy w' (some p) := by
  have hr := box_made w (.bool false) (.int .u64 0) (.int .u64 0)
  have hne : w.heap.size ≠ p := by have := hc.lt; omega
  have hge : W.heap.size ≤ w.heap.size := hc.2.1.size
  go_enter Tryd.func68, Tryd.ntmps68
  go_wp2_with fail
  refine (l1Below W _ p 5 (by omega) (by omega) (hc.alloc _)).mono ?_
  rintro e w1 ⟨⟨m, hm, rfl⟩, hc1, hg1⟩
  have HG := Lib.hid (grownBy_trans (grownBy_alloc w _ (some p)) hg1)
  have hr1 := hr.grown hg1 hne
  clear hr hg1
  have hm5 : m = 0 ∨ m = 1 ∨ (m : Int) ≠ 0 ∧ (m : Int) ≠ 1 := by omega
  rcases hm5 with rfl | rfl | ⟨hm0, hm1⟩
  · go_wp2_with fail
    refine (l1WholeG W _ p hc1).mono ?_
    rintro e w2 ⟨⟨z, z0, z1, rfl⟩, hc2, hg2⟩
    replace HG := Lib.hid (grownBy_trans (a := w) (by repeat' (first | exact HG.out | refine grown_alloc ?_ _ | refine grown_set ?_ (by omega))) hg2)
    have hr2 := hr1.grown hg2 hne
    go_wp2_with fail
    refine (specWideOfW z z0 z1 _).mono ?_
    rintro e w3 ⟨rfl, hB3⟩
    replace HG := Lib.hid (grownBy_trans (a := w) (by repeat' (first | exact HG.out | refine grown_alloc ?_ _ | refine grown_set ?_ (by omega))) (grown_still hB3))
    have hc3 := hc2.still hB3
    have hr3 := hr2.still hB3
    obtain ⟨n, h, l, hh, hl, hw⟩ := wideC_out (room_small (by omega) (by omega) : RoomW z)
    rw [Ending.returned.inj hw]
    clear hw
    have hcr0 := hr3.c0
    have hfr0 := hr3.f 0
    have hcr1 := hr3.c1
    have hfr1 := hr3.f 1
    have hcr2 := hr3.c2
    have hfr2 := hr3.f 2
    go_wp2_with fail
    (try simp only [Exit.inBlock, Exit.then])
    refine bodyPost_ret (v := .agg #[.bool n, .int .u64 h, .int .u64 l]) ?_ rfl ⟨⟨n, h, l, hh, hl, rfl⟩, ?_⟩
    · rw [results_cell rfl]
      go_simp
    · refine ⟨?_, ?_⟩
      · repeat' (first | exact hc3 | refine Cur.set ?_ hne hge)
      · repeat' (first | exact HG.out | refine grown_set ?_ (by omega))
  · go_wp2_with fail
    refine (l1Below W _ p 7 (by omega) (by omega) (hc1.alloc _)).mono ?_
    rintro e w2 ⟨⟨m, hm, rfl⟩, hc2, hg2⟩
    replace HG := Lib.hid (grownBy_trans (a := w) (by repeat' (first | exact HG.out | refine grown_alloc ?_ _ | refine grown_set ?_ (by omega))) hg2)
    have hr2 := (hr1.still ((Below.refl _ _).alloc (Nat.le_refl _) _)).grown hg2 hne
    have hb2 := arr_grown hg2 (by have := hc1.lt; omega)
    have hcr0 := hr2.c0
    have hfr0 := hr2.f 0
    have hcr1 := hr2.c1
    have hfr1 := hr2.f 1
    have hcr2 := hr2.c2
    have hfr2 := hr2.f 2
    have hm7 : m = 0 ∨ m = 1 ∨ m = 2 ∨ m = 3 ∨ m = 4 ∨ m = 5 ∨ m = 6 := by omega
    rcases hm7 with rfl | rfl | rfl | rfl | rfl | rfl | rfl
    · have hx0 : w2.cell? ⟨w1.heap.size, 0, none⟩ = some (.bool false) := cell_blk hb2 0
      have hx1 : w2.cell? ⟨w1.heap.size, 1, none⟩ = some (.int .u64 0) := cell_blk hb2 1
      have hx2 : w2.cell? ⟨w1.heap.size, 2, none⟩ = some (.int .u64 0) := cell_blk hb2 2
      clear hb2
      go_wp2_with fail
      (try simp only [Exit.inBlock, Exit.then])
      refine bodyPost_ret (v := .agg #[.bool false, .int .u64 0, .int .u64 0]) ?_ rfl ⟨⟨_, _, _, ⟨by omega, by omega⟩, ⟨by omega, by omega⟩, rfl⟩, ?_⟩
      · rw [results_cell rfl]
        go_simp
      · refine ⟨?_, ?_⟩
        · repeat' (first | exact hc2 | refine Cur.set ?_ hne hge)
        · repeat' (first | exact HG.out | refine grown_set ?_ (by omega))
    · have hx0 : w2.cell? ⟨w1.heap.size, 3, none⟩ = some (.bool false) := cell_blk hb2 3
      have hx1 : w2.cell? ⟨w1.heap.size, 4, none⟩ = some (.int .u64 0) := cell_blk hb2 4
      have hx2 : w2.cell? ⟨w1.heap.size, 5, none⟩ = some (.int .u64 1) := cell_blk hb2 5
      clear hb2
      go_wp2_with fail
      (try simp only [Exit.inBlock, Exit.then])
      refine bodyPost_ret (v := .agg #[.bool false, .int .u64 0, .int .u64 1]) ?_ rfl ⟨⟨_, _, _, ⟨by omega, by omega⟩, ⟨by omega, by omega⟩, rfl⟩, ?_⟩
      · rw [results_cell rfl]
        go_simp
      · refine ⟨?_, ?_⟩
        · repeat' (first | exact hc2 | refine Cur.set ?_ hne hge)
        · repeat' (first | exact HG.out | refine grown_set ?_ (by omega))
    · have hx0 : w2.cell? ⟨w1.heap.size, 6, none⟩ = some (.bool true) := cell_blk hb2 6
      have hx1 : w2.cell? ⟨w1.heap.size, 7, none⟩ = some (.int .u64 0) := cell_blk hb2 7
      have hx2 : w2.cell? ⟨w1.heap.size, 8, none⟩ = some (.int .u64 1) := cell_blk hb2 8
      clear hb2
      go_wp2_with fail
      (try simp only [Exit.inBlock, Exit.then])
      refine bodyPost_ret (v := .agg #[.bool true, .int .u64 0, .int .u64 1]) ?_ rfl ⟨⟨_, _, _, ⟨by omega, by omega⟩, ⟨by omega, by omega⟩, rfl⟩, ?_⟩
      · rw [results_cell rfl]
        go_simp
      · refine ⟨?_, ?_⟩
        · repeat' (first | exact hc2 | refine Cur.set ?_ hne hge)
        · repeat' (first | exact HG.out | refine grown_set ?_ (by omega))
    · have hx0 : w2.cell? ⟨w1.heap.size, 9, none⟩ = some (.bool false) := cell_blk hb2 9
      have hx1 : w2.cell? ⟨w1.heap.size, 10, none⟩ = some (.int .u64 1) := cell_blk hb2 10
      have hx2 : w2.cell? ⟨w1.heap.size, 11, none⟩ = some (.int .u64 0) := cell_blk hb2 11
      clear hb2
      go_wp2_with fail
      (try simp only [Exit.inBlock, Exit.then])
      refine bodyPost_ret (v := .agg #[.bool false, .int .u64 1, .int .u64 0]) ?_ rfl ⟨⟨_, _, _, ⟨by omega, by omega⟩, ⟨by omega, by omega⟩, rfl⟩, ?_⟩
      · rw [results_cell rfl]
        go_simp
      · refine ⟨?_, ?_⟩
        · repeat' (first | exact hc2 | refine Cur.set ?_ hne hge)
        · repeat' (first | exact HG.out | refine grown_set ?_ (by omega))
    · have hx0 : w2.cell? ⟨w1.heap.size, 12, none⟩ = some (.bool false) := cell_blk hb2 12
      have hx1 : w2.cell? ⟨w1.heap.size, 13, none⟩ = some (.int .u64 9223372036854775807) := cell_blk hb2 13
      have hx2 : w2.cell? ⟨w1.heap.size, 14, none⟩ = some (.int .u64 18446744073709551615) := cell_blk hb2 14
      clear hb2
      go_wp2_with fail
      (try simp only [Exit.inBlock, Exit.then])
      refine bodyPost_ret (v := .agg #[.bool false, .int .u64 9223372036854775807, .int .u64 18446744073709551615]) ?_ rfl ⟨⟨_, _, _, ⟨by omega, by omega⟩, ⟨by omega, by omega⟩, rfl⟩, ?_⟩
      · rw [results_cell rfl]
        go_simp
      · refine ⟨?_, ?_⟩
        · repeat' (first | exact hc2 | refine Cur.set ?_ hne hge)
        · repeat' (first | exact HG.out | refine grown_set ?_ (by omega))
    · have hx0 : w2.cell? ⟨w1.heap.size, 15, none⟩ = some (.bool true) := cell_blk hb2 15
      have hx1 : w2.cell? ⟨w1.heap.size, 16, none⟩ = some (.int .u64 9223372036854775807) := cell_blk hb2 16
      have hx2 : w2.cell? ⟨w1.heap.size, 17, none⟩ = some (.int .u64 18446744073709551615) := cell_blk hb2 17
      clear hb2
      go_wp2_with fail
      (try simp only [Exit.inBlock, Exit.then])
      refine bodyPost_ret (v := .agg #[.bool true, .int .u64 9223372036854775807, .int .u64 18446744073709551615]) ?_ rfl ⟨⟨_, _, _, ⟨by omega, by omega⟩, ⟨by omega, by omega⟩, rfl⟩, ?_⟩
      · rw [results_cell rfl]
        go_simp
      · refine ⟨?_, ?_⟩
        · repeat' (first | exact hc2 | refine Cur.set ?_ hne hge)
        · repeat' (first | exact HG.out | refine grown_set ?_ (by omega))
    · have hx0 : w2.cell? ⟨w1.heap.size, 18, none⟩ = some (.bool false) := cell_blk hb2 18
      have hx1 : w2.cell? ⟨w1.heap.size, 19, none⟩ = some (.int .u64 0) := cell_blk hb2 19
      have hx2 : w2.cell? ⟨w1.heap.size, 20, none⟩ = some (.int .u64 18446744073709551615) := cell_blk hb2 20
      clear hb2
      go_wp2_with fail
      (try simp only [Exit.inBlock, Exit.then])
      refine bodyPost_ret (v := .agg #[.bool false, .int .u64 0, .int .u64 18446744073709551615]) ?_ rfl ⟨⟨_, _, _, ⟨by omega, by omega⟩, ⟨by omega, by omega⟩, rfl⟩, ?_⟩
      · rw [results_cell rfl]
        go_simp
      · refine ⟨?_, ?_⟩
        · repeat' (first | exact hc2 | refine Cur.set ?_ hne hge)
        · repeat' (first | exact HG.out | refine grown_set ?_ (by omega))
  · go_wp2_with fail
    refine (l1WholeG W _ p hc1).mono ?_
    rintro e w2 ⟨⟨a, a0, a1, rfl⟩, hc2, hg2⟩
    replace HG := Lib.hid (grownBy_trans (a := w) (by repeat' (first | exact HG.out | refine grown_alloc ?_ _ | refine grown_set ?_ (by omega))) hg2)
    have hr2 := hr1.grown hg2 hne
    go_wp2_with fail
    refine (l1WholeG W _ p hc2).mono ?_
    rintro e w3 ⟨⟨b, b0, b1, rfl⟩, hc3, hg3⟩
    replace HG := Lib.hid (grownBy_trans (a := w) (by repeat' (first | exact HG.out | refine grown_alloc ?_ _ | refine grown_set ?_ (by omega))) hg3)
    have hr3 := hr2.grown hg3 hne
    go_wp2_with fail
    refine (specMulWide a b a0 a1 b0 b1 _).mono ?_
    rintro e w4 ⟨rfl, hB4⟩
    replace HG := Lib.hid (grownBy_trans (a := w) (by repeat' (first | exact HG.out | refine grown_alloc ?_ _ | refine grown_set ?_ (by omega))) (grown_still hB4))
    have hc4 := hc3.still hB4
    have hr4 := hr3.still hB4
    obtain ⟨n, h, l, hh, hl, hw⟩ := wideC_out (room_mul a0 a1 b0 b1)
    rw [Ending.returned.inj hw]
    clear hw
    go_wp2_with fail
    have hx4 := box_made w4 (.bool n) (.int .u64 h) (.int .u64 l)
    have hrx := hr4.still ((Below.refl w4.heap.size w4).alloc (Nat.le_refl _) (.cells #[.bool n, .int .u64 h, .int .u64 l] 26))
    refine (l1Once W _ p 10 (by omega) (by omega) (hc4.alloc _)).mono ?_
    rintro e w5 ⟨⟨q, rfl⟩, hc5, hg5⟩
    replace HG := Lib.hid (grownBy_trans (a := w) (by repeat' (first | exact HG.out | refine grown_alloc ?_ _ | refine grown_set ?_ (by omega))) hg5)
    have hn4 : w4.heap.size ≠ p := by have := hc4.lt; omega
    have hge4 : W.heap.size ≤ w4.heap.size := hc4.2.1.size
    have hr5 := hrx.grown hg5 hne
    have hx5 := hx4.grown hg5 hn4
    have hrl : w.heap.size < w4.heap.size := hr4.lt
    clear hx4 hrx hr4 hr3 hr2 hr1 hg5 hg3 hg2
    have hl2 : 0 ≤ IntKind.u64.wrap (h + 9223372036854775808) ∧ IntKind.u64.wrap (h + 9223372036854775808) < 18446744073709551616 := by rw [IntKind.wrap_u64]; omega
    obtain ⟨h', hw'⟩ : ∃ h', IntKind.u64.wrap (h + 9223372036854775808) = h' := ⟨_, rfl⟩
    rw [hw'] at hl2
    have hcx0 := hx5.c0
    have hfx0 := hx5.f 0
    have hcx1 := hx5.c1
    have hfx1 := hx5.f 1
    have hcx2 := hx5.c2
    have hfx2 := hx5.f 2
    cases q with
    | true =>
      go_wp2_with fail
      have hx6 : Box (w5.setCell ⟨w4.heap.size, 1, none⟩ (.int .u64 h')) w4.heap.size (.bool n) (.int .u64 h') (.int .u64 l) := by
        have := hx5
        unfold Box at this ⊢
        rw [Go.Joins.block_setCell this]
        rfl
      have hr6 : Box (w5.setCell ⟨w4.heap.size, 1, none⟩ (.int .u64 h')) w.heap.size (.bool false) (.int .u64 0) (.int .u64 0) := (Below.heap_setCell _ _ _ _ (show w.heap.size ≠ w4.heap.size by omega)).trans hr5
      refine (l1Once W _ p 10 (by omega) (by omega) (hc5.set hn4 hge4)).mono ?_
      rintro e w6 ⟨⟨q, rfl⟩, hc6, hg6⟩
      replace HG := Lib.hid (grownBy_trans (a := w) (by repeat' (first | exact HG.out | refine grown_alloc ?_ _ | refine grown_set ?_ (by omega))) hg6)
      have hx7 := hx6.grown hg6 hn4
      have hr7 := hr6.grown hg6 hne
      clear hx6 hr6 hx5 hr5
      clear hcx0 hcx1 hcx2 hfx0 hfx1 hfx2
      have hcx0 := hx7.c0
      have hfx0 := hx7.f 0
      have hcx1 := hx7.c1
      have hfx1 := hx7.f 1
      have hcx2 := hx7.c2
      have hfx2 := hx7.f 2
      have hcr0 := hr7.c0
      have hfr0 := hr7.f 0
      have hcr1 := hr7.c1
      have hfr1 := hr7.f 1
      have hcr2 := hr7.c2
      have hfr2 := hr7.f 2
      clear hx7 hr7
      cases q with
      | true =>
        go_wp2_with fail
        (try simp only [Exit.inBlock, Exit.then])
        refine bodyPost_ret (v := .agg #[.bool (!n), .int .u64 h', .int .u64 l]) ?_ rfl ⟨⟨_, _, _, hl2, hl, rfl⟩, ?_⟩
        · rw [results_cell rfl]
          go_simp
        · refine ⟨?_, ?_⟩
          · repeat' (first | exact hc6 | refine Cur.set ?_ hne hge | refine Cur.set ?_ hn4 hge4)
          · repeat' (first | exact HG.out | refine grown_set ?_ (by omega))
      | false =>
        go_wp2_with fail
        (try simp only [Exit.inBlock, Exit.then])
        refine bodyPost_ret (v := .agg #[.bool n, .int .u64 h', .int .u64 l]) ?_ rfl ⟨⟨_, _, _, hl2, hl, rfl⟩, ?_⟩
        · rw [results_cell rfl]
          go_simp
        · refine ⟨?_, ?_⟩
          · repeat' (first | exact hc6 | refine Cur.set ?_ hne hge | refine Cur.set ?_ hn4 hge4)
          · repeat' (first | exact HG.out | refine grown_set ?_ (by omega))
    | false =>
      go_wp2_with fail
      refine (l1Once W _ p 10 (by omega) (by omega) hc5).mono ?_
      rintro e w6 ⟨⟨q, rfl⟩, hc6, hg6⟩
      replace HG := Lib.hid (grownBy_trans (a := w) (by repeat' (first | exact HG.out | refine grown_alloc ?_ _ | refine grown_set ?_ (by omega))) hg6)
      have hx7 := hx5.grown hg6 hn4
      have hr7 := hr5.grown hg6 hne
      clear hx5 hr5
      clear hcx0 hcx1 hcx2 hfx0 hfx1 hfx2
      have hcx0 := hx7.c0
      have hfx0 := hx7.f 0
      have hcx1 := hx7.c1
      have hfx1 := hx7.f 1
      have hcx2 := hx7.c2
      have hfx2 := hx7.f 2
      have hcr0 := hr7.c0
      have hfr0 := hr7.f 0
      have hcr1 := hr7.c1
      have hfr1 := hr7.f 1
      have hcr2 := hr7.c2
      have hfr2 := hr7.f 2
      clear hx7 hr7
      cases q with
      | true =>
        go_wp2_with fail
        (try simp only [Exit.inBlock, Exit.then])
        refine bodyPost_ret (v := .agg #[.bool (!n), .int .u64 h, .int .u64 l]) ?_ rfl ⟨⟨_, _, _, hh, hl, rfl⟩, ?_⟩
        · rw [results_cell rfl]
          go_simp
        · refine ⟨?_, ?_⟩
          · repeat' (first | exact hc6 | refine Cur.set ?_ hne hge | refine Cur.set ?_ hn4 hge4)
          · repeat' (first | exact HG.out | refine grown_set ?_ (by omega))
      | false =>
        go_wp2_with fail
        (try simp only [Exit.inBlock, Exit.then])
        refine bodyPost_ret (v := .agg #[.bool n, .int .u64 h, .int .u64 l]) ?_ rfl ⟨⟨_, _, _, hh, hl, rfl⟩, ?_⟩
        · rw [results_cell rfl]
          go_simp
        · refine ⟨?_, ?_⟩
          · repeat' (first | exact hc6 | refine Cur.set ?_ hne hge | refine Cur.set ?_ hn4 hge4)
          · repeat' (first | exact HG.out | refine grown_set ?_ (by omega))
end Go.Proofs.YtapdocfifgnjgaaDoor
