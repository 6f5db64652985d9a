
/-
  A fraction drawn.
-/
import Derived.Test.YtapdocfifgnjgaaDoorFracS
import Derived.Test.YtapdocfifgnjgaaDoorWideG
namespace Go.Proofs.YtapdocfifgnjgaaDoor
open Go.RowKit

def FracOut (e : Ending) : Prop := ∃ (n : Bool) (h l d : Int), (0 ≤ h ∧ h < 18446744073709551616) ∧ (0 ≤ l ∧ l < 18446744073709551616) ∧ (-9223372036854775808 ≤ d ∧ d ≤ 9223372036854775807) ∧ e = .returned (.agg #[.bool n, .int .u64 h, .int .u64 l, .int .i64 d])
theorem blk_grown {w w' : World} {b p : Nat} {cs : Array Value} {T : TypeId} (h : w.heap[b]? = some (.cells cs T (0, 0))) (hg : w.grownBy w' (some p)) (hne : b ≠ p) : w'.heap[b]? = some (.cells cs T (0, 0)) :=
  (hg.block b (blkF h) (fun e => hne (Option.some.inj e))).trans h
theorem blk_alloc {w : World} {b : Nat} {cs : Array Value} {T : TypeId} (h : w.heap[b]? = some (.cells cs T (0, 0))) (o : Obj) : (w.alloc o).heap[b]? = some (.cells cs T (0, 0)) := by
  rw [Below.heap_alloc _ _ _ (blkF h)]
  exact h
theorem sqE_small {z m : Int} (z0 : -9223372036854775808 ≤ z) (z1 : z ≤ 9223372036854775807) (m0 : 1 ≤ m) (m1 : m ≤ 1000000) :
    ∃ (n : Bool) (h l : Int), (0 ≤ h ∧ h < 18446744073709551616) ∧ (0 ≤ l ∧ l < 18446744073709551616) ∧ sqE z m = .returned (.tuple #[.agg #[.bool n, .int .u64 h, .int .u64 l, .int .i64 m], .bool true]) := by
  have hr := sq_room z0 z1
  rw [sqE, if_pos ⟨m0, m1⟩, fracV]
  exact ⟨_, _, _, by omega, by omega, rfl⟩
set_option maxRecDepth 100000 in
set_option maxHeartbeats 1000000 in
theorem l5Frac (W w : World) (p : Nat) (hc : Cur W w p) :
    Calls Tryd.prog 37 #[.pointer (some ⟨p, 0, none⟩)] w fun e w' => FracOut e ∧ Cur W w' p ∧ w.grownBy w' (some p) := by
  have hne : w.heap.size ≠ p := by have := hc.lt; omega
  have hge : W.heap.size ≤ w.heap.size := hc.2.1.size
  go_enter Tryd.func37, Tryd.ntmps37
  go_wp2_with fail
  refine (l1WholeG W _ p (hc.alloc _)).mono ?_
  rintro e w1 ⟨⟨z, z0, z1, rfl⟩, hc1, hg1⟩
  have hR := arr_grown hg1 hne
  have HG := Lib.hid (grownBy_trans (grownBy_alloc w _ (some p)) hg1)
  clear hg1
  go_wp2_with fail
  refine (l1Below W _ p 140 (by omega) (by omega) hc1).mono ?_
  rintro e w2 ⟨⟨m, hm, rfl⟩, hc2, hg2⟩
  replace hR := blk_grown hR hg2 hne
  replace HG := Lib.hid (grownBy_trans (a := w) (by repeat' (first | refine grown_alloc ?_ _ | refine grown_set ?_ (by omega) | exact HG.out)) hg2)
  clear hg2
  go_wp2_with fail
  refine (specSquareOver z _ z0 z1 _).mono ?_
  rintro e w3 ⟨rfl, hB3⟩
  have hc3 := hc2.still hB3
  replace hR := box_still hR hB3
  replace HG := Lib.hid (grownBy_trans (a := w) (by repeat' (first | refine grown_alloc ?_ _ | refine grown_set ?_ (by omega) | exact HG.out)) (grown_still hB3))
  clear hB3
  obtain ⟨n, h, l, hh, hl, hq⟩ := sqE_small (m := 1 + (m : Int)) z0 z1 (by omega) (by omega)
  rw [hq]
  clear hq
  have hlp := hc3.lt
  go_wp2_with fail
  refine (l1Once W _ p 5 (by omega) (by omega) (hc3.alloc _)).mono ?_
  rintro e w4 ⟨⟨b, rfl⟩, hc4, hg4⟩
  have hF := arr_grown hg4 (by omega)
  have hlF : w.heap.size < w3.heap.size := blkF hR
  replace hR := blk_grown (blk_alloc hR _) hg4 hne
  replace HG := Lib.hid (grownBy_trans (a := w) (by repeat' (first | refine grown_alloc ?_ _ | refine grown_set ?_ (by omega) | exact HG.out)) hg4)
  clear hg4
  cases b with
  | false =>
    have hcz := hc4
    have cF0 : w4.cell? ⟨w3.heap.size, 0, none⟩ = some (.bool n) := cell_blk hF 0
    have cF1 : w4.cell? ⟨w3.heap.size, 1, none⟩ = some (.int .u64 h) := cell_blk hF 1
    have cF2 : w4.cell? ⟨w3.heap.size, 2, none⟩ = some (.int .u64 l) := cell_blk hF 2
    have cF3 : w4.cell? ⟨w3.heap.size, 3, none⟩ = some (.int .i64 (1 + m)) := cell_blk hF 3
    have fF := free_blk hF
    have lF := blkF hF
    have cR0 : w4.cell? ⟨w.heap.size, 0, none⟩ = some (.bool false) := cell_blk hR 0
    have cR1 : w4.cell? ⟨w.heap.size, 1, none⟩ = some (.int .u64 0) := cell_blk hR 1
    have cR2 : w4.cell? ⟨w.heap.size, 2, none⟩ = some (.int .u64 0) := cell_blk hR 2
    have cR3 : w4.cell? ⟨w.heap.size, 3, none⟩ = some (.int .i64 0) := cell_blk hR 3
    have fR := free_blk hR
    have lR := blkF hR
    go_wp2_with fail
    (try simp only [Exit.inBlock, Exit.then])
    refine bodyPost_ret (v := .agg #[.bool n, .int .u64 h, .int .u64 l, .int .i64 (1 + m)]) ?_ rfl ⟨⟨_, _, _, _, hh, hl, (by omega), rfl⟩, ?_, ?_⟩
    · rw [results_cell rfl]
      go_simp
    · repeat' (first | refine Cur.set ?_ (by omega) (by omega) | exact hcz)
    · repeat' (first | refine grown_set ?_ (by omega) | exact HG.out)
  | true =>
    go_wp2_with fail
    refine (l3WideG W _ p hc4).mono ?_
    rintro e w5 ⟨⟨n2, h2, l2, hh2, hl2, rfl⟩, hc5, hg5⟩
    replace hF := blk_grown hF hg5 (by omega)
    replace hR := blk_grown hR hg5 hne
    replace HG := Lib.hid (grownBy_trans (a := w) (by repeat' (first | refine grown_alloc ?_ _ | refine grown_set ?_ (by omega) | exact HG.out)) hg5)
    clear hg5
    have hl5 := hc5.lt
    go_wp2_with fail
    refine (l1PickInt W _ p w5.heap.size 11 (by omega) (by omega) (by omega) ?_ (hc5.alloc _)).mono ?_
    · refine intList ?_ ?_
      · rfl
      · decide
    rintro e w6 ⟨⟨z2, y0, y1, rfl⟩, hc6, hg6⟩
    replace hF := blk_grown (blk_alloc hF _) hg6 (by omega)
    replace hR := blk_grown (blk_alloc hR _) hg6 hne
    replace HG := Lib.hid (grownBy_trans (a := w) (by repeat' (first | refine grown_alloc ?_ _ | refine grown_set ?_ (by omega) | exact HG.out)) hg6)
    clear hg6
    have hcz := hc6
    have cF0 : w6.cell? ⟨w3.heap.size, 0, none⟩ = some (.bool n) := cell_blk hF 0
    have cF1 : w6.cell? ⟨w3.heap.size, 1, none⟩ = some (.int .u64 h) := cell_blk hF 1
    have cF2 : w6.cell? ⟨w3.heap.size, 2, none⟩ = some (.int .u64 l) := cell_blk hF 2
    have cF3 : w6.cell? ⟨w3.heap.size, 3, none⟩ = some (.int .i64 (1 + m)) := cell_blk hF 3
    have fF := free_blk hF
    have lF := blkF hF
    have cR0 : w6.cell? ⟨w.heap.size, 0, none⟩ = some (.bool false) := cell_blk hR 0
    have cR1 : w6.cell? ⟨w.heap.size, 1, none⟩ = some (.int .u64 0) := cell_blk hR 1
    have cR2 : w6.cell? ⟨w.heap.size, 2, none⟩ = some (.int .u64 0) := cell_blk hR 2
    have cR3 : w6.cell? ⟨w.heap.size, 3, none⟩ = some (.int .i64 0) := cell_blk hR 3
    have fR := free_blk hR
    have lR := blkF hR
    go_wp2_with fail
    (try simp only [Exit.inBlock, Exit.then])
    refine bodyPost_ret (v := .agg #[.bool n2, .int .u64 h2, .int .u64 l2, .int .i64 z2]) ?_ rfl ⟨⟨_, _, _, _, hh2, hl2, ⟨y0, y1⟩, rfl⟩, ?_, ?_⟩
    · rw [results_cell rfl]
      go_simp
    · repeat' (first | refine Cur.set ?_ (by omega) (by omega) | exact hcz)
    · repeat' (first | refine grown_set ?_ (by omega) | exact HG.out)
end Go.Proofs.YtapdocfifgnjgaaDoor
