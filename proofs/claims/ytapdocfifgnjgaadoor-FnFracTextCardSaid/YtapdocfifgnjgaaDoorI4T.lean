
/-
  A wide number times ten and a digit: the program's way.
-/
import Derived.Test.YtapdocfifgnjgaaDoorPk7
import Derived.Test.YtapdocfifgnjgaaDoorPk6
import Derived.Test.YtapdocfifgnjgaaDoorPk8
namespace Go.Proofs.YtapdocfifgnjgaaDoor
open Go.RowKit

theorem blkT {w : World} {b : Nat} {cs : Array Value} {T : TypeId} {f : Nat × Nat} (h : w.heap[b]? = some (.cells cs T f)) : b < w.heap.size := by
  rcases Nat.lt_or_ge b w.heap.size with hl | hl
  · exact hl
  · rw [Array.getElem?_eq_none hl] at h; cases h

set_option maxRecDepth 100000 in
set_option maxHeartbeats 1000000 in
theorem implTenT_lo (n0 : Bool) (h0 l0 d0 : Int) (hd : d0 < 0) (w : World) :
    Calls Tryd.prog 71 #[.agg #[.bool n0, .int .u64 h0, .int .u64 l0], .int .i64 d0] w fun e w' => e = .returned (.tuple #[.agg #[.bool false, .int .u64 0, .int .u64 0], .bool false]) ∧ Below w.heap.size w w' := by
  go_enter Tryd.func71, Tryd.ntmps71
  go_wp2_with fail
  (try simp only [Exit.inBlock, Exit.then])
  refine bodyPost_ret (v := .tuple #[.agg #[.bool false, .int .u64 0, .int .u64 0], .bool false]) ?_ rfl ⟨rfl, ?_⟩
  · rw [results_cell_tmp rfl]
    go_simp
  · repeat' (first | assumption | exact HT.out | exact Below.refl _ _ | refine Below.drew ?_ | refine Below.setCell ?_ (by simp <;> omega) _ | refine Below.alloc ?_ (by simp <;> omega) _)
set_option maxRecDepth 100000 in
set_option maxHeartbeats 1000000 in
theorem implTenT_hi (n0 : Bool) (h0 l0 d0 : Int) (h9 : 0 ≤ d0) (hd : 9 < d0) (w : World) :
    Calls Tryd.prog 71 #[.agg #[.bool n0, .int .u64 h0, .int .u64 l0], .int .i64 d0] w fun e w' => e = .returned (.tuple #[.agg #[.bool false, .int .u64 0, .int .u64 0], .bool false]) ∧ Below w.heap.size w w' := by
  go_enter Tryd.func71, Tryd.ntmps71
  go_wp2_with fail
  (try simp only [Exit.inBlock, Exit.then])
  refine bodyPost_ret (v := .tuple #[.agg #[.bool false, .int .u64 0, .int .u64 0], .bool false]) ?_ rfl ⟨rfl, ?_⟩
  · rw [results_cell_tmp rfl]
    go_simp
  · repeat' (first | assumption | exact HT.out | exact Below.refl _ _ | refine Below.drew ?_ | refine Below.setCell ?_ (by simp <;> omega) _ | refine Below.alloc ?_ (by simp <;> omega) _)
set_option maxRecDepth 100000 in
set_option maxHeartbeats 1000000 in
theorem implTenT_bigp (h0 l0 d0 : Int) (hp0 : 0 ≤ h0) (hq0 : h0 < 18446744073709551616) (lp0 : 0 ≤ l0) (lq0 : l0 < 18446744073709551616) (b0 : 0 ≤ d0) (b1 : d0 ≤ 9) (hs3 : Hid (scaleE false h0 l0 10 = .returned (.tuple #[.agg #[.bool false, .int .u64 0, .int .u64 0], .bool false]))) (w : World) :
    Calls Tryd.prog 71 #[.agg #[.bool false, .int .u64 h0, .int .u64 l0], .int .i64 d0] w fun e w' => e = .returned (.tuple #[.agg #[.bool false, .int .u64 0, .int .u64 0], .bool false]) ∧ Below w.heap.size w w' := by
  go_enter Tryd.func71, Tryd.ntmps71
  go_wp2_with fail
  refine (implScaleWide false h0 l0 10 hp0 hq0 lp0 lq0 (by omega) (by omega) _).mono ?_
  rintro e w3 ⟨rfl, hB3⟩
  rw [hs3.out]
  obtain ⟨hXa, hXr, hBB, hs⟩ := box2 hB3
  have HT := Lib.hid hBB
  clear hBB hB3 hs
  have hcr0 : w3.cell? ⟨w.heap.size + 1, 0, none⟩ = some (.bool false) := cell_blk hXr 0
  have hfr0 := free_blk hXr 0
  have hcr1 : w3.cell? ⟨w.heap.size + 1, 1, none⟩ = some (.int .u64 0) := cell_blk hXr 1
  have hfr1 := free_blk hXr 1
  have hcr2 : w3.cell? ⟨w.heap.size + 1, 2, none⟩ = some (.int .u64 0) := cell_blk hXr 2
  have hfr2 := free_blk hXr 2
  have hlr : w.heap.size + 1 < w3.heap.size := World.block_lt_of_cell? w3 _ hcr0
  go_wp2_with fail
  (try simp only [Exit.inBlock, Exit.then])
  refine bodyPost_ret (v := .tuple #[.agg #[.bool false, .int .u64 0, .int .u64 0], .bool false]) ?_ rfl ⟨rfl, ?_⟩
  · rw [results_cell_tmp rfl]
    go_simp
  · repeat' (first | assumption | exact HT.out | exact Below.refl _ _ | refine Below.drew ?_ | refine Below.setCell ?_ (by simp <;> omega) _ | refine Below.alloc ?_ (by simp <;> omega) _)
set_option maxRecDepth 100000 in
set_option maxHeartbeats 1000000 in
theorem implTenT_bign (h0 l0 d0 : Int) (hp0 : 0 ≤ h0) (hq0 : h0 < 18446744073709551616) (lp0 : 0 ≤ l0) (lq0 : l0 < 18446744073709551616) (b0 : 0 ≤ d0) (b1 : d0 ≤ 9) (hs3 : Hid (scaleE true h0 l0 10 = .returned (.tuple #[.agg #[.bool false, .int .u64 0, .int .u64 0], .bool false]))) (w : World) :
    Calls Tryd.prog 71 #[.agg #[.bool true, .int .u64 h0, .int .u64 l0], .int .i64 d0] w fun e w' => e = .returned (.tuple #[.agg #[.bool false, .int .u64 0, .int .u64 0], .bool false]) ∧ Below w.heap.size w w' := by
  go_enter Tryd.func71, Tryd.ntmps71
  go_wp2_with fail
  refine (implScaleWide true h0 l0 10 hp0 hq0 lp0 lq0 (by omega) (by omega) _).mono ?_
  rintro e w3 ⟨rfl, hB3⟩
  rw [hs3.out]
  obtain ⟨hXa, hXr, hBB, hs⟩ := box2 hB3
  have HT := Lib.hid hBB
  clear hBB hB3 hs
  have hcr0 : w3.cell? ⟨w.heap.size + 1, 0, none⟩ = some (.bool false) := cell_blk hXr 0
  have hfr0 := free_blk hXr 0
  have hcr1 : w3.cell? ⟨w.heap.size + 1, 1, none⟩ = some (.int .u64 0) := cell_blk hXr 1
  have hfr1 := free_blk hXr 1
  have hcr2 : w3.cell? ⟨w.heap.size + 1, 2, none⟩ = some (.int .u64 0) := cell_blk hXr 2
  have hfr2 := free_blk hXr 2
  have hlr : w.heap.size + 1 < w3.heap.size := World.block_lt_of_cell? w3 _ hcr0
  go_wp2_with fail
  (try simp only [Exit.inBlock, Exit.then])
  refine bodyPost_ret (v := .tuple #[.agg #[.bool false, .int .u64 0, .int .u64 0], .bool false]) ?_ rfl ⟨rfl, ?_⟩
  · rw [results_cell_tmp rfl]
    go_simp
  · repeat' (first | assumption | exact HT.out | exact Below.refl _ _ | refine Below.drew ?_ | refine Below.setCell ?_ (by simp <;> omega) _ | refine Below.alloc ?_ (by simp <;> omega) _)
set_option maxRecDepth 100000 in
set_option maxHeartbeats 1000000 in
theorem implTenT_okp (h0 l0 d0 : Int) (n1 n2 n3 b : Bool) (h1 l1 h2 l2 h3 l3 : Int) (hp0 : 0 ≤ h0) (hq0 : h0 < 18446744073709551616) (lp0 : 0 ≤ l0) (lq0 : l0 < 18446744073709551616) (hs3 : Hid (scaleE false h0 l0 10 = .returned (.tuple #[.agg #[.bool n1, .int .u64 h1, .int .u64 l1], .bool true]))) (hD : Hid (wideC d0 = .agg #[.bool n2, .int .u64 h2, .int .u64 l2])) (hS : Hid (addE n1 h1 l1 n2 h2 l2 = .returned (.tuple #[.agg #[.bool n3, .int .u64 h3, .int .u64 l3], .bool b]))) (p1 : 0 ≤ h1) (o0 : 0 ≤ l1) (o1 : l1 < 18446744073709551616) (p2 : 0 ≤ h2) (o2 : 0 ≤ l2) (o3 : l2 < 18446744073709551616) (b0 : 0 ≤ d0) (b1 : d0 ≤ 9) (w : World) :
    Calls Tryd.prog 71 #[.agg #[.bool false, .int .u64 h0, .int .u64 l0], .int .i64 d0] w fun e w' => e = .returned (.tuple #[.agg #[.bool n3, .int .u64 h3, .int .u64 l3], .bool b]) ∧ Below w.heap.size w w' := by
  go_enter Tryd.func71, Tryd.ntmps71
  go_wp2_with fail
  refine (implScaleWide false h0 l0 10 hp0 hq0 lp0 lq0 (by omega) (by omega) _).mono ?_
  rintro e w3 ⟨rfl, hB3⟩
  rw [hs3.out]
  obtain ⟨hXa, hXr, hBB, hs⟩ := box2 hB3
  have HT := Lib.hid hBB
  clear hBB hB3 hs
  have hlr : w.heap.size < w3.heap.size := blkT hXa
  have hlR : w.heap.size + 1 < w3.heap.size := blkT hXr
  go_wp2_with fail
  have hbn := box_new w3 (.cells #[.bool n1, .int .u64 h1, .int .u64 l1] 26)
  have hDD : (w3.alloc (.cells #[.bool n1, .int .u64 h1, .int .u64 l1] 26)).drew.cell? ⟨w3.heap.size, 0, none⟩ = some (.bool n1) ∧ (w3.alloc (.cells #[.bool n1, .int .u64 h1, .int .u64 l1] 26)).drew.cell? ⟨w3.heap.size, 1, none⟩ = some (.int .u64 h1) ∧ (w3.alloc (.cells #[.bool n1, .int .u64 h1, .int .u64 l1] 26)).drew.cell? ⟨w3.heap.size, 2, none⟩ = some (.int .u64 l1) ∧ Below w.heap.size w (w3.alloc (.cells #[.bool n1, .int .u64 h1, .int .u64 l1] 26)).drew := ⟨cell_blk (w := (w3.alloc (.cells #[.bool n1, .int .u64 h1, .int .u64 l1] 26))) hbn 0, cell_blk (w := (w3.alloc (.cells #[.bool n1, .int .u64 h1, .int .u64 l1] 26))) hbn 1, cell_blk (w := (w3.alloc (.cells #[.bool n1, .int .u64 h1, .int .u64 l1] 26))) hbn 2, (HT.out.alloc HT.out.size _).drew⟩
  clear hbn hXa
  refine wp_region_noPanic ?_
  refine wp_region_held_drew (S := (fun w' => w'.cell? ⟨w3.heap.size, 0, none⟩ = some (.bool n1) ∧ w'.cell? ⟨w3.heap.size, 1, none⟩ = some (.int .u64 h1) ∧ w'.cell? ⟨w3.heap.size, 2, none⟩ = some (.int .u64 l1) ∧ Below w.heap.size w w')) (by kernel_rfl) hDD (fun hHeld => ?_)
  clear hDD
  refine wpAnyH_take (i := 0) (oi := ?o1) (v := ?v1) ?hi1 ?hs1 ?hf1 ?hr1 ?hQ1 ?hy1 ?hS1 ?rest1
  case hi1 => rfl
  case hs1 => kernel_rfl
  case hf1 => kernel_rfl
  case hr1 => kernel_rfl
  case hQ1 => exact fun _ _ _ h => h
  case hS1 => assumption
  case hy1 =>
    refine Or.inl ⟨by kernel_rfl, ?_⟩
    intro w' hSw
    (try dsimp only at hSw)
    go_simp
    (try rfl)
  (try simp only [List.getElem_toArray, List.getElem_cons_zero, Act.put, List.setIfInBounds_toArray, List.set_cons_zero, List.set_cons_succ])
  refine wpAnyH_take (i := 1) (oi := ?o2) (v := ?v2) ?hi2 ?hs2 ?hf2 ?hr2 ?hQ2 ?hy2 ?hS2 ?rest2
  case hi2 => rfl
  case hs2 => kernel_rfl
  case hf2 => kernel_rfl
  case hr2 => kernel_rfl
  case hQ2 => exact fun _ _ _ h => h
  case hS2 => assumption
  case hy2 =>
    refine Or.inl ⟨by kernel_rfl, ?_⟩
    intro w' hSw
    (try dsimp only at hSw)
    go_simp
    (try rfl)
  (try simp only [List.getElem_toArray, List.getElem_cons_succ, List.getElem_cons_zero, Act.put, List.setIfInBounds_toArray, List.set_cons_zero, List.set_cons_succ])
  refine wpAnyH_ready (rs := [2]) (by kernel_rfl) (by simp) ?_
  refine AllReadyH.cons rfl (fun K hK => ?_) AllReadyH.nil
  go_simp
  refine (implWideOfW d0 (by omega) (by omega) _).mono ?_
  rintro e w5 ⟨rfl, hB5⟩
  replace hB5 := below_of_drew hB5
  have hXx := box_kept hB5
  have hBB := box_below hB5
  replace hXr := box_still hXr hBB
  replace HT := Lib.hid (bt2 HT.out hBB)
  clear hB5 hBB
  rw [hD.out]
  refine hK.out _ _ ?_ (fun hHeld => ?_)
  · exact ⟨cell_blk hXx 0, cell_blk hXx 1, cell_blk hXx 2, HT.out⟩
  clear hK K
  (try simp only [List.getElem_toArray, List.getElem_cons_succ, List.getElem_cons_zero, Act.put, List.setIfInBounds_toArray, List.set_cons_zero, List.set_cons_succ])
  refine wpAnyH_ready (rs := [3]) (by kernel_rfl) (by simp) ?_
  refine AllReadyH.cons rfl (fun K hK => ?_) AllReadyH.nil
  go_simp
  refine (implAddWide n1 h1 l1 n2 h2 l2 p1 p2 o0 o1 o2 o3 _).mono ?_
  rintro e w6 ⟨rfl, hB6⟩
  replace hXx := box_still hXx hB6
  replace hXr := box_still hXr hB6
  replace HT := Lib.hid (bt2 HT.out hB6)
  clear hB6
  rw [hS.out]
  refine hK.out _ _ ?_ (fun hHeld => ?_)
  · exact ⟨cell_blk hXx 0, cell_blk hXx 1, cell_blk hXx 2, HT.out⟩
  clear hK K
  (try simp only [List.getElem_toArray, List.getElem_cons_succ, List.getElem_cons_zero, Act.put, List.setIfInBounds_toArray, List.set_cons_zero, List.set_cons_succ])
  refine wpAnyH_take (i := 4) (oi := ?o3) (v := ?v3) ?hi3 ?hs3 ?hf3 ?hr3 ?hQ3 ?hy3 ?hS3 ?rest3
  case hi3 => rfl
  case hs3 => kernel_rfl
  case hf3 => kernel_rfl
  case hr3 => kernel_rfl
  case hQ3 => exact fun _ _ _ h => h
  case hS3 => assumption
  case hy3 =>
    refine Or.inl ⟨by kernel_rfl, ?_⟩
    intro w' hSw
    (try dsimp only at hSw)
    go_simp
    (try rfl)
  (try simp only [List.getElem_toArray, List.getElem_cons_succ, List.getElem_cons_zero, Act.put, List.setIfInBounds_toArray, List.set_cons_zero, List.set_cons_succ])
  refine wpAnyH_take (i := 5) (oi := ?o4) (v := ?v4) ?hi4 ?hs4 ?hf4 ?hr4 ?hQ4 ?hy4 ?hS4 ?rest4
  case hi4 => rfl
  case hs4 => kernel_rfl
  case hf4 => kernel_rfl
  case hr4 => kernel_rfl
  case hQ4 => exact fun _ _ _ h => h
  case hS4 => assumption
  case hy4 =>
    refine Or.inl ⟨by kernel_rfl, ?_⟩
    intro w' hSw
    (try dsimp only at hSw)
    go_simp
    (try rfl)
  (try simp only [List.getElem_toArray, List.getElem_cons_succ, List.getElem_cons_zero, Act.put, List.setIfInBounds_toArray, List.set_cons_zero, List.set_cons_succ])
  have hcr0 : w6.cell? ⟨w.heap.size + 1, 0, none⟩ = some (.bool false) := cell_blk hXr 0
  have hfr0 := free_blk hXr 0
  have hcr1 : w6.cell? ⟨w.heap.size + 1, 1, none⟩ = some (.int .u64 0) := cell_blk hXr 1
  have hfr1 := free_blk hXr 1
  have hcr2 : w6.cell? ⟨w.heap.size + 1, 2, none⟩ = some (.int .u64 0) := cell_blk hXr 2
  have hfr2 := free_blk hXr 2
  refine wpAnyH_ready (rs := [6]) (by kernel_rfl) (by simp) ?_
  refine AllReadyH.cons rfl (fun K hK => ?_) AllReadyH.nil
  go_simp
  refine hK.out _ _ ?_ (fun hHeld => ?_)
  · exact ⟨(st3_far _ _ _ _ _ _ _ (by omega)).trans (cell_blk hXx 0), (st3_far _ _ _ _ _ _ _ (by omega)).trans (cell_blk hXx 1), (st3_far _ _ _ _ _ _ _ (by omega)).trans (cell_blk hXx 2), st3_below HT.out (by omega) _ _ _⟩
  clear hK K
  (try simp only [List.getElem_toArray, List.getElem_cons_succ, List.getElem_cons_zero, Act.put, List.setIfInBounds_toArray, List.set_cons_zero, List.set_cons_succ])
  refine wpAnyH_take (i := 7) (oi := ?o5) (v := ?v5) ?hi5 ?hs5 ?hf5 ?hr5 ?hQ5 ?hy5 ?hS5 ?rest5
  case hi5 => rfl
  case hs5 => kernel_rfl
  case hf5 => kernel_rfl
  case hr5 => kernel_rfl
  case hQ5 => exact fun _ _ _ h => h
  case hS5 => assumption
  case hy5 =>
    refine Or.inl ⟨by kernel_rfl, ?_⟩
    intro w' hSw
    (try dsimp only at hSw)
    go_simp
    (try rfl)
  (try simp only [List.getElem_toArray, List.getElem_cons_succ, List.getElem_cons_zero, Act.put, List.setIfInBounds_toArray, List.set_cons_zero, List.set_cons_succ])
  refine wpAnyH_done (by kernel_rfl) ?_ _
  refine NoPanic.normal ?_
  go_wp2_with fail
  (try simp only [Exit.inBlock, Exit.then])
  refine bodyPost_ret (v := .tuple #[.agg #[.bool n3, .int .u64 h3, .int .u64 l3], .bool b]) ?_ rfl ⟨rfl, ?_⟩
  · rw [results_cell_tmp rfl]
    go_simp
  · repeat' (first | assumption | exact HT.out | exact Below.refl _ _ | refine Below.drew ?_ | refine Below.setCell ?_ (by simp <;> omega) _ | refine Below.alloc ?_ (by simp <;> omega) _)
set_option maxRecDepth 100000 in
set_option maxHeartbeats 1000000 in
theorem implTenT_okn (h0 l0 d0 : Int) (n1 n2 n3 b : Bool) (h1 l1 h2 l2 h3 l3 : Int) (hp0 : 0 ≤ h0) (hq0 : h0 < 18446744073709551616) (lp0 : 0 ≤ l0) (lq0 : l0 < 18446744073709551616) (hs3 : Hid (scaleE true h0 l0 10 = .returned (.tuple #[.agg #[.bool n1, .int .u64 h1, .int .u64 l1], .bool true]))) (hD : Hid (wideC (-d0) = .agg #[.bool n2, .int .u64 h2, .int .u64 l2])) (hS : Hid (addE n1 h1 l1 n2 h2 l2 = .returned (.tuple #[.agg #[.bool n3, .int .u64 h3, .int .u64 l3], .bool b]))) (p1 : 0 ≤ h1) (o0 : 0 ≤ l1) (o1 : l1 < 18446744073709551616) (p2 : 0 ≤ h2) (o2 : 0 ≤ l2) (o3 : l2 < 18446744073709551616) (b0 : 0 ≤ d0) (b1 : d0 ≤ 9) (w : World) :
    Calls Tryd.prog 71 #[.agg #[.bool true, .int .u64 h0, .int .u64 l0], .int .i64 d0] w fun e w' => e = .returned (.tuple #[.agg #[.bool n3, .int .u64 h3, .int .u64 l3], .bool b]) ∧ Below w.heap.size w w' := by
  go_enter Tryd.func71, Tryd.ntmps71
  go_wp2_with fail
  refine (implScaleWide true h0 l0 10 hp0 hq0 lp0 lq0 (by omega) (by omega) _).mono ?_
  rintro e w3 ⟨rfl, hB3⟩
  rw [hs3.out]
  obtain ⟨hXa, hXr, hBB, hs⟩ := box2 hB3
  have HT := Lib.hid hBB
  clear hBB hB3 hs
  have hlr : w.heap.size < w3.heap.size := blkT hXa
  have hlR : w.heap.size + 1 < w3.heap.size := blkT hXr
  go_wp2_with fail
  have hbn := box_new w3 (.cells #[.bool n1, .int .u64 h1, .int .u64 l1] 26)
  have hDD : (w3.alloc (.cells #[.bool n1, .int .u64 h1, .int .u64 l1] 26)).drew.cell? ⟨w3.heap.size, 0, none⟩ = some (.bool n1) ∧ (w3.alloc (.cells #[.bool n1, .int .u64 h1, .int .u64 l1] 26)).drew.cell? ⟨w3.heap.size, 1, none⟩ = some (.int .u64 h1) ∧ (w3.alloc (.cells #[.bool n1, .int .u64 h1, .int .u64 l1] 26)).drew.cell? ⟨w3.heap.size, 2, none⟩ = some (.int .u64 l1) ∧ Below w.heap.size w (w3.alloc (.cells #[.bool n1, .int .u64 h1, .int .u64 l1] 26)).drew := ⟨cell_blk (w := (w3.alloc (.cells #[.bool n1, .int .u64 h1, .int .u64 l1] 26))) hbn 0, cell_blk (w := (w3.alloc (.cells #[.bool n1, .int .u64 h1, .int .u64 l1] 26))) hbn 1, cell_blk (w := (w3.alloc (.cells #[.bool n1, .int .u64 h1, .int .u64 l1] 26))) hbn 2, (HT.out.alloc HT.out.size _).drew⟩
  clear hbn hXa
  refine wp_region_noPanic ?_
  refine wp_region_held_drew (S := (fun w' => w'.cell? ⟨w3.heap.size, 0, none⟩ = some (.bool n1) ∧ w'.cell? ⟨w3.heap.size, 1, none⟩ = some (.int .u64 h1) ∧ w'.cell? ⟨w3.heap.size, 2, none⟩ = some (.int .u64 l1) ∧ Below w.heap.size w w')) (by kernel_rfl) hDD (fun hHeld => ?_)
  clear hDD
  refine wpAnyH_take (i := 0) (oi := ?o6) (v := ?v6) ?hi6 ?hs6 ?hf6 ?hr6 ?hQ6 ?hy6 ?hS6 ?rest6
  case hi6 => rfl
  case hs6 => kernel_rfl
  case hf6 => kernel_rfl
  case hr6 => kernel_rfl
  case hQ6 => exact fun _ _ _ h => h
  case hS6 => assumption
  case hy6 =>
    refine Or.inl ⟨by kernel_rfl, ?_⟩
    intro w' hSw
    (try dsimp only at hSw)
    go_simp
    (try rfl)
  (try simp only [List.getElem_toArray, List.getElem_cons_zero, Act.put, List.setIfInBounds_toArray, List.set_cons_zero, List.set_cons_succ])
  refine wpAnyH_take (i := 1) (oi := ?o7) (v := ?v7) ?hi7 ?hs7 ?hf7 ?hr7 ?hQ7 ?hy7 ?hS7 ?rest7
  case hi7 => rfl
  case hs7 => kernel_rfl
  case hf7 => kernel_rfl
  case hr7 => kernel_rfl
  case hQ7 => exact fun _ _ _ h => h
  case hS7 => assumption
  case hy7 =>
    refine Or.inl ⟨by kernel_rfl, ?_⟩
    intro w' hSw
    (try dsimp only at hSw)
    go_simp
    (try rfl)
  (try simp only [List.getElem_toArray, List.getElem_cons_succ, List.getElem_cons_zero, Act.put, List.setIfInBounds_toArray, List.set_cons_zero, List.set_cons_succ])
  refine wpAnyH_ready (rs := [2]) (by kernel_rfl) (by simp) ?_
  refine AllReadyH.cons rfl (fun K hK => ?_) AllReadyH.nil
  go_simp
  refine (implWideOfW (-d0) (by omega) (by omega) _).mono ?_
  rintro e w5 ⟨rfl, hB5⟩
  replace hB5 := below_of_drew hB5
  have hXx := box_kept hB5
  have hBB := box_below hB5
  replace hXr := box_still hXr hBB
  replace HT := Lib.hid (bt2 HT.out hBB)
  clear hB5 hBB
  rw [hD.out]
  refine hK.out _ _ ?_ (fun hHeld => ?_)
  · exact ⟨cell_blk hXx 0, cell_blk hXx 1, cell_blk hXx 2, HT.out⟩
  clear hK K
  (try simp only [List.getElem_toArray, List.getElem_cons_succ, List.getElem_cons_zero, Act.put, List.setIfInBounds_toArray, List.set_cons_zero, List.set_cons_succ])
  refine wpAnyH_ready (rs := [3]) (by kernel_rfl) (by simp) ?_
  refine AllReadyH.cons rfl (fun K hK => ?_) AllReadyH.nil
  go_simp
  refine (implAddWide n1 h1 l1 n2 h2 l2 p1 p2 o0 o1 o2 o3 _).mono ?_
  rintro e w6 ⟨rfl, hB6⟩
  replace hXx := box_still hXx hB6
  replace hXr := box_still hXr hB6
  replace HT := Lib.hid (bt2 HT.out hB6)
  clear hB6
  rw [hS.out]
  refine hK.out _ _ ?_ (fun hHeld => ?_)
  · exact ⟨cell_blk hXx 0, cell_blk hXx 1, cell_blk hXx 2, HT.out⟩
  clear hK K
  (try simp only [List.getElem_toArray, List.getElem_cons_succ, List.getElem_cons_zero, Act.put, List.setIfInBounds_toArray, List.set_cons_zero, List.set_cons_succ])
  refine wpAnyH_take (i := 4) (oi := ?o8) (v := ?v8) ?hi8 ?hs8 ?hf8 ?hr8 ?hQ8 ?hy8 ?hS8 ?rest8
  case hi8 => rfl
  case hs8 => kernel_rfl
  case hf8 => kernel_rfl
  case hr8 => kernel_rfl
  case hQ8 => exact fun _ _ _ h => h
  case hS8 => assumption
  case hy8 =>
    refine Or.inl ⟨by kernel_rfl, ?_⟩
    intro w' hSw
    (try dsimp only at hSw)
    go_simp
    (try rfl)
  (try simp only [List.getElem_toArray, List.getElem_cons_succ, List.getElem_cons_zero, Act.put, List.setIfInBounds_toArray, List.set_cons_zero, List.set_cons_succ])
  refine wpAnyH_take (i := 5) (oi := ?o9) (v := ?v9) ?hi9 ?hs9 ?hf9 ?hr9 ?hQ9 ?hy9 ?hS9 ?rest9
  case hi9 => rfl
  case hs9 => kernel_rfl
  case hf9 => kernel_rfl
  case hr9 => kernel_rfl
  case hQ9 => exact fun _ _ _ h => h
  case hS9 => assumption
  case hy9 =>
    refine Or.inl ⟨by kernel_rfl, ?_⟩
    intro w' hSw
    (try dsimp only at hSw)
    go_simp
    (try rfl)
  (try simp only [List.getElem_toArray, List.getElem_cons_succ, List.getElem_cons_zero, Act.put, List.setIfInBounds_toArray, List.set_cons_zero, List.set_cons_succ])
  have hcr0 : w6.cell? ⟨w.heap.size + 1, 0, none⟩ = some (.bool false) := cell_blk hXr 0
  have hfr0 := free_blk hXr 0
  have hcr1 : w6.cell? ⟨w.heap.size + 1, 1, none⟩ = some (.int .u64 0) := cell_blk hXr 1
  have hfr1 := free_blk hXr 1
  have hcr2 : w6.cell? ⟨w.heap.size + 1, 2, none⟩ = some (.int .u64 0) := cell_blk hXr 2
  have hfr2 := free_blk hXr 2
  refine wpAnyH_ready (rs := [6]) (by kernel_rfl) (by simp) ?_
  refine AllReadyH.cons rfl (fun K hK => ?_) AllReadyH.nil
  go_simp
  refine hK.out _ _ ?_ (fun hHeld => ?_)
  · exact ⟨(st3_far _ _ _ _ _ _ _ (by omega)).trans (cell_blk hXx 0), (st3_far _ _ _ _ _ _ _ (by omega)).trans (cell_blk hXx 1), (st3_far _ _ _ _ _ _ _ (by omega)).trans (cell_blk hXx 2), st3_below HT.out (by omega) _ _ _⟩
  clear hK K
  (try simp only [List.getElem_toArray, List.getElem_cons_succ, List.getElem_cons_zero, Act.put, List.setIfInBounds_toArray, List.set_cons_zero, List.set_cons_succ])
  refine wpAnyH_take (i := 7) (oi := ?o10) (v := ?v10) ?hi10 ?hs10 ?hf10 ?hr10 ?hQ10 ?hy10 ?hS10 ?rest10
  case hi10 => rfl
  case hs10 => kernel_rfl
  case hf10 => kernel_rfl
  case hr10 => kernel_rfl
  case hQ10 => exact fun _ _ _ h => h
  case hS10 => assumption
  case hy10 =>
    refine Or.inl ⟨by kernel_rfl, ?_⟩
    intro w' hSw
    (try dsimp only at hSw)
    go_simp
    (try rfl)
  (try simp only [List.getElem_toArray, List.getElem_cons_succ, List.getElem_cons_zero, Act.put, List.setIfInBounds_toArray, List.set_cons_zero, List.set_cons_succ])
  refine wpAnyH_done (by kernel_rfl) ?_ _
  refine NoPanic.normal ?_
  go_wp2_with fail
  (try simp only [Exit.inBlock, Exit.then])
  refine bodyPost_ret (v := .tuple #[.agg #[.bool n3, .int .u64 h3, .int .u64 l3], .bool b]) ?_ rfl ⟨rfl, ?_⟩
  · rw [results_cell_tmp rfl]
    go_simp
  · repeat' (first | assumption | exact HT.out | exact Below.refl _ _ | refine Below.drew ?_ | refine Below.setCell ?_ (by simp <;> omega) _ | refine Below.alloc ?_ (by simp <;> omega) _)
/-- TEN TIMES A NUMBER AND A DIGIT, whatever they are. -/
theorem implTenTimes (n0 : Bool) (h0 l0 d0 : Int) (hp0 : 0 ≤ h0) (hq0 : h0 < 18446744073709551616) (lp0 : 0 ≤ l0) (lq0 : l0 < 18446744073709551616) (w : World) :
    Calls Tryd.prog 71 #[.agg #[.bool n0, .int .u64 h0, .int .u64 l0], .int .i64 d0] w fun e w' => e = tenE n0 h0 l0 d0 ∧ Below w.heap.size w w' := by
  by_cases b0 : 0 ≤ d0
  · by_cases b1 : d0 ≤ 9
    · by_cases hk : okV n0 h0 l0 = true
      · rw [tenE, if_pos ⟨hk, b0, b1⟩]
        by_cases hr : RoomW (sv n0 (h0 * 18446744073709551616 + l0) * 10)
        · obtain ⟨n1, h1, l1, hX⟩ : ∃ (n : Bool) (h l : Int), wideC (sv n0 (h0 * 18446744073709551616 + l0) * 10) = .agg #[.bool n, .int .u64 h, .int .u64 l] := ⟨_, _, _, rfl⟩
          obtain ⟨n2, h2, l2, hD⟩ : ∃ (n : Bool) (h l : Int), wideC (sv n0 d0) = .agg #[.bool n, .int .u64 h, .int .u64 l] := ⟨_, _, _, rfl⟩
          have hrD : RoomW (sv n0 d0) := by unfold RoomW; cases n0 <;> simp [sv] <;> omega
          obtain ⟨n3, h3, l3, b, hF⟩ := fitW_shape (sv n0 (h0 * 18446744073709551616 + l0) * 10 + sv n0 d0)
          have hS := wideC_addE hr hrD hX hD
          rw [hF] at hS ⊢
          have hs3 : scaleE n0 h0 l0 10 = .returned (.tuple #[.agg #[.bool n1, .int .u64 h1, .int .u64 l1], .bool true]) := by rw [scaleE, if_pos hk, fitW_in hr, hX]
          have p := wideC_bounds hX
          have q := wideC_bounds hD
          cases n0
          · exact implTenT_okp h0 l0 d0 n1 n2 n3 b h1 l1 h2 l2 h3 l3 hp0 hq0 lp0 lq0 (Lib.hid hs3) (Lib.hid hD) (Lib.hid hS) p.1 p.2.1 p.2.2.1 q.1 q.2.1 q.2.2.1 b0 b1 w
          · exact implTenT_okn h0 l0 d0 n1 n2 n3 b h1 l1 h2 l2 h3 l3 hp0 hq0 lp0 lq0 (Lib.hid hs3) (Lib.hid hD) (Lib.hid hS) p.1 p.2.1 p.2.2.1 q.1 q.2.1 q.2.2.1 b0 b1 w
        · have hr2 : ¬ RoomW (sv n0 (h0 * 18446744073709551616 + l0) * 10 + sv n0 d0) := by
            unfold RoomW at hr ⊢
            cases n0 <;> simp only [sv, if_true, Bool.false_eq_true, if_false] at hr ⊢ <;> omega
          rw [← fitW_no hr2]
          have hs3 := Lib.hid (show scaleE n0 h0 l0 10 = .returned (.tuple #[.agg #[.bool false, .int .u64 0, .int .u64 0], .bool false]) by rw [scaleE, if_pos hk, ← fitW_no hr])
          cases n0
          · exact implTenT_bigp h0 l0 d0 hp0 hq0 lp0 lq0 b0 b1 hs3 w
          · exact implTenT_bign h0 l0 d0 hp0 hq0 lp0 lq0 b0 b1 hs3 w
      · rw [tenE, if_neg (fun k => hk k.1)]
        have hs3 := Lib.hid (show scaleE n0 h0 l0 10 = .returned (.tuple #[.agg #[.bool false, .int .u64 0, .int .u64 0], .bool false]) by rw [scaleE, if_neg hk])
        cases n0
        · exact implTenT_bigp h0 l0 d0 hp0 hq0 lp0 lq0 b0 b1 hs3 w
        · exact implTenT_bign h0 l0 d0 hp0 hq0 lp0 lq0 b0 b1 hs3 w
    · rw [tenE, if_neg (fun k => b1 k.2.2)]
      exact implTenT_hi n0 h0 l0 d0 b0 (by omega) w
  · rw [tenE, if_neg (fun k => b0 k.2.1)]
    exact implTenT_lo n0 h0 l0 d0 (by omega) w
end Go.Proofs.YtapdocfifgnjgaaDoor
