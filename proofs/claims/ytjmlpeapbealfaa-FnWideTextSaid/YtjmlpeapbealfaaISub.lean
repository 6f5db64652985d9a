
/-
  The difference of wide numbers: the program's way.
-/
import Derived.Test.YtjmlpeapbealfaaBox3
namespace Go.Proofs.Ytjmlpeapbealfaa
open Go.RowKit

set_option maxRecDepth 100000 in
set_option maxHeartbeats 1000000 in
theorem implSubWide (n0 : Bool) (h0 l0 : Int) (n1 : Bool) (h1 l1 : Int) (hp0 : 0 ≤ h0) (hp1 : 0 ≤ h1) (lp0 : 0 ≤ l0) (lq0 : l0 < 18446744073709551616) (lp1 : 0 ≤ l1) (lq1 : l1 < 18446744073709551616) (w : World) :
    Calls Try.prog 18 #[.agg #[.bool n0, .int .u64 h0, .int .u64 l0], .agg #[.bool n1, .int .u64 h1, .int .u64 l1]] w fun e w' => e = addE n0 h0 l0 (negV n1 h1 l1) h1 l1 ∧ Below w.heap.size w w' := by
  obtain ⟨r, x, y, k, hadd⟩ := addE_shape n0 h0 l0 (negV n1 h1 l1) h1 l1
  have HADD := Lib.hid hadd
  clear hadd
  go_enter Try.func18, Try.ntmps18
  go_wp2_with fail
  obtain ⟨hXa, hXb, hXr, hBB, hs⟩ := box3 (w := w) (a := #[.bool n0, .int .u64 h0, .int .u64 l0]) (b := #[.bool n1, .int .u64 h1, .int .u64 l1]) (r := #[.bool false, .int .u64 0, .int .u64 0]) (T := 30) (U := 30) (V := 30) (Below.refl _ _)
  have HT := Lib.hid hBB
  clear hBB hs
  have hS0 : (((w.alloc (.cells #[.bool n0, .int .u64 h0, .int .u64 l0] 30)).alloc (.cells #[.bool n1, .int .u64 h1, .int .u64 l1] 30)).alloc (.cells #[.bool false, .int .u64 0, .int .u64 0] 30)).drew.cell? ⟨w.heap.size, 0, none⟩ = some (.bool n0) ∧ (((w.alloc (.cells #[.bool n0, .int .u64 h0, .int .u64 l0] 30)).alloc (.cells #[.bool n1, .int .u64 h1, .int .u64 l1] 30)).alloc (.cells #[.bool false, .int .u64 0, .int .u64 0] 30)).drew.cell? ⟨w.heap.size, 1, none⟩ = some (.int .u64 h0) ∧ (((w.alloc (.cells #[.bool n0, .int .u64 h0, .int .u64 l0] 30)).alloc (.cells #[.bool n1, .int .u64 h1, .int .u64 l1] 30)).alloc (.cells #[.bool false, .int .u64 0, .int .u64 0] 30)).drew.cell? ⟨w.heap.size, 2, none⟩ = some (.int .u64 l0) ∧ (((w.alloc (.cells #[.bool n0, .int .u64 h0, .int .u64 l0] 30)).alloc (.cells #[.bool n1, .int .u64 h1, .int .u64 l1] 30)).alloc (.cells #[.bool false, .int .u64 0, .int .u64 0] 30)).drew.cell? ⟨(w.heap.size + 1), 0, none⟩ = some (.bool n1) ∧ (((w.alloc (.cells #[.bool n0, .int .u64 h0, .int .u64 l0] 30)).alloc (.cells #[.bool n1, .int .u64 h1, .int .u64 l1] 30)).alloc (.cells #[.bool false, .int .u64 0, .int .u64 0] 30)).drew.cell? ⟨(w.heap.size + 1), 1, none⟩ = some (.int .u64 h1) ∧ (((w.alloc (.cells #[.bool n0, .int .u64 h0, .int .u64 l0] 30)).alloc (.cells #[.bool n1, .int .u64 h1, .int .u64 l1] 30)).alloc (.cells #[.bool false, .int .u64 0, .int .u64 0] 30)).drew.cell? ⟨(w.heap.size + 1), 2, none⟩ = some (.int .u64 l1) ∧ Below w.heap.size w (((w.alloc (.cells #[.bool n0, .int .u64 h0, .int .u64 l0] 30)).alloc (.cells #[.bool n1, .int .u64 h1, .int .u64 l1] 30)).alloc (.cells #[.bool false, .int .u64 0, .int .u64 0] 30)).drew := ⟨cell_blk (w := (((w.alloc (.cells #[.bool n0, .int .u64 h0, .int .u64 l0] 30)).alloc (.cells #[.bool n1, .int .u64 h1, .int .u64 l1] 30)).alloc (.cells #[.bool false, .int .u64 0, .int .u64 0] 30))) hXa 0, cell_blk (w := (((w.alloc (.cells #[.bool n0, .int .u64 h0, .int .u64 l0] 30)).alloc (.cells #[.bool n1, .int .u64 h1, .int .u64 l1] 30)).alloc (.cells #[.bool false, .int .u64 0, .int .u64 0] 30))) hXa 1, cell_blk (w := (((w.alloc (.cells #[.bool n0, .int .u64 h0, .int .u64 l0] 30)).alloc (.cells #[.bool n1, .int .u64 h1, .int .u64 l1] 30)).alloc (.cells #[.bool false, .int .u64 0, .int .u64 0] 30))) hXa 2, cell_blk (w := (((w.alloc (.cells #[.bool n0, .int .u64 h0, .int .u64 l0] 30)).alloc (.cells #[.bool n1, .int .u64 h1, .int .u64 l1] 30)).alloc (.cells #[.bool false, .int .u64 0, .int .u64 0] 30))) hXb 0, cell_blk (w := (((w.alloc (.cells #[.bool n0, .int .u64 h0, .int .u64 l0] 30)).alloc (.cells #[.bool n1, .int .u64 h1, .int .u64 l1] 30)).alloc (.cells #[.bool false, .int .u64 0, .int .u64 0] 30))) hXb 1, cell_blk (w := (((w.alloc (.cells #[.bool n0, .int .u64 h0, .int .u64 l0] 30)).alloc (.cells #[.bool n1, .int .u64 h1, .int .u64 l1] 30)).alloc (.cells #[.bool false, .int .u64 0, .int .u64 0] 30))) hXb 2, HT.out.drew⟩
  refine wp_region_noPanic ?_
  refine wp_region_held_drew (S := (fun w' => w'.cell? ⟨w.heap.size, 0, none⟩ = some (.bool n0) ∧ w'.cell? ⟨w.heap.size, 1, none⟩ = some (.int .u64 h0) ∧ w'.cell? ⟨w.heap.size, 2, none⟩ = some (.int .u64 l0) ∧ w'.cell? ⟨(w.heap.size + 1), 0, none⟩ = some (.bool n1) ∧ w'.cell? ⟨(w.heap.size + 1), 1, none⟩ = some (.int .u64 h1) ∧ w'.cell? ⟨(w.heap.size + 1), 2, none⟩ = some (.int .u64 l1) ∧ Below w.heap.size w w')) (by kernel_rfl) hS0 (fun hHeld => ?_)
  clear hS0
  refine wpAnyH_take (i := 0) (oi := ?o1) (v := ?v1) ?hi1 ?hs1 ?hf1 ?hr1 ?hQ1 ?hy1 ?hS1 ?rest1
  case hi1 => rfl
  case hs1 => kernel_rfl
  case hf1 => kernel_rfl
  case hr1 => kernel_rfl
  case hQ1 => exact fun _ _ _ h => h
  case hS1 => assumption
  case hy1 =>
    refine Or.inl ⟨by kernel_rfl, ?_⟩
    intro w' hSw
    (try dsimp only at hSw)
    go_simp
    (try rfl)
  (try simp only [List.getElem_toArray, List.getElem_cons_zero, Act.put, List.setIfInBounds_toArray, List.set_cons_zero, List.set_cons_succ])
  refine wpAnyH_take (i := 1) (oi := ?o2) (v := ?v2) ?hi2 ?hs2 ?hf2 ?hr2 ?hQ2 ?hy2 ?hS2 ?rest2
  case hi2 => rfl
  case hs2 => kernel_rfl
  case hf2 => kernel_rfl
  case hr2 => kernel_rfl
  case hQ2 => exact fun _ _ _ h => h
  case hS2 => assumption
  case hy2 =>
    refine Or.inl ⟨by kernel_rfl, ?_⟩
    intro w' hSw
    (try dsimp only at hSw)
    go_simp
    (try rfl)
  (try simp only [List.getElem_toArray, List.getElem_cons_succ, List.getElem_cons_zero, Act.put, List.setIfInBounds_toArray, List.set_cons_zero, List.set_cons_succ])
  refine wpAnyH_ready (rs := [2]) (by kernel_rfl) (by simp) ?_
  refine AllReadyH.cons rfl (fun K hK => ?_) AllReadyH.nil
  go_simp
  refine (implNegWide n1 h1 l1 hp1 lp1 _).mono ?_
  rintro e w1 ⟨rfl, hB1⟩
  replace hB1 := below_of_drew hB1
  replace hXa := box_still hXa hB1
  replace hXb := box_still hXb hB1
  replace hXr := box_still hXr hB1
  replace HT := Lib.hid (bt2 HT.out hB1)
  clear hB1
  refine hK.out _ _ ?_ (fun hHeld => ?_)
  · exact ⟨cell_blk hXa 0, cell_blk hXa 1, cell_blk hXa 2, cell_blk hXb 0, cell_blk hXb 1, cell_blk hXb 2, HT.out⟩
  clear hK K
  (try simp only [List.getElem_toArray, List.getElem_cons_succ, List.getElem_cons_zero, Act.put, List.setIfInBounds_toArray, List.set_cons_zero, List.set_cons_succ])
  refine wpAnyH_ready (rs := [3]) (by kernel_rfl) (by simp) ?_
  refine AllReadyH.cons rfl (fun K hK => ?_) AllReadyH.nil
  go_simp
  refine (implAddWide n0 h0 l0 (negV n1 h1 l1) h1 l1 hp0 hp1 lp0 lq0 lp1 lq1 _).mono ?_
  rintro e w2 ⟨rfl, hB2⟩
  replace hXa := box_still hXa hB2
  replace hXb := box_still hXb hB2
  replace hXr := box_still hXr hB2
  replace HT := Lib.hid (bt2 HT.out hB2)
  clear hB2
  rw [HADD.out]
  refine hK.out _ _ ?_ (fun hHeld => ?_)
  · exact ⟨cell_blk hXa 0, cell_blk hXa 1, cell_blk hXa 2, cell_blk hXb 0, cell_blk hXb 1, cell_blk hXb 2, HT.out⟩
  clear hK K
  (try simp only [List.getElem_toArray, List.getElem_cons_succ, List.getElem_cons_zero, Act.put, List.setIfInBounds_toArray, List.set_cons_zero, List.set_cons_succ])
  refine wpAnyH_take (i := 4) (oi := ?o3) (v := ?v3) ?hi3 ?hs3 ?hf3 ?hr3 ?hQ3 ?hy3 ?hS3 ?rest3
  case hi3 => rfl
  case hs3 => kernel_rfl
  case hf3 => kernel_rfl
  case hr3 => kernel_rfl
  case hQ3 => exact fun _ _ _ h => h
  case hS3 => assumption
  case hy3 =>
    refine Or.inl ⟨by kernel_rfl, ?_⟩
    intro w' hSw
    (try dsimp only at hSw)
    go_simp
    (try rfl)
  (try simp only [List.getElem_toArray, List.getElem_cons_succ, List.getElem_cons_zero, Act.put, List.setIfInBounds_toArray, List.set_cons_zero, List.set_cons_succ])
  refine wpAnyH_take (i := 5) (oi := ?o4) (v := ?v4) ?hi4 ?hs4 ?hf4 ?hr4 ?hQ4 ?hy4 ?hS4 ?rest4
  case hi4 => rfl
  case hs4 => kernel_rfl
  case hf4 => kernel_rfl
  case hr4 => kernel_rfl
  case hQ4 => exact fun _ _ _ h => h
  case hS4 => assumption
  case hy4 =>
    refine Or.inl ⟨by kernel_rfl, ?_⟩
    intro w' hSw
    (try dsimp only at hSw)
    go_simp
    (try rfl)
  (try simp only [List.getElem_toArray, List.getElem_cons_succ, List.getElem_cons_zero, Act.put, List.setIfInBounds_toArray, List.set_cons_zero, List.set_cons_succ])
  have hcr0 : w2.cell? ⟨(w.heap.size + 1 + 1), 0, none⟩ = some (.bool false) := cell_blk hXr 0
  have hfr0 := free_blk hXr 0
  have hcr1 : w2.cell? ⟨(w.heap.size + 1 + 1), 1, none⟩ = some (.int .u64 0) := cell_blk hXr 1
  have hfr1 := free_blk hXr 1
  have hcr2 : w2.cell? ⟨(w.heap.size + 1 + 1), 2, none⟩ = some (.int .u64 0) := cell_blk hXr 2
  have hfr2 := free_blk hXr 2
  refine wpAnyH_ready (rs := [6]) (by kernel_rfl) (by simp) ?_
  refine AllReadyH.cons rfl (fun K hK => ?_) AllReadyH.nil
  go_simp
  refine hK.out _ _ ?_ (fun hHeld => ?_)
  · exact ⟨(st3_far _ _ _ _ _ _ _ (by omega)).trans (cell_blk hXa 0), (st3_far _ _ _ _ _ _ _ (by omega)).trans (cell_blk hXa 1), (st3_far _ _ _ _ _ _ _ (by omega)).trans (cell_blk hXa 2), (st3_far _ _ _ _ _ _ _ (by omega)).trans (cell_blk hXb 0), (st3_far _ _ _ _ _ _ _ (by omega)).trans (cell_blk hXb 1), (st3_far _ _ _ _ _ _ _ (by omega)).trans (cell_blk hXb 2), st3_below HT.out (by omega) _ _ _⟩
  clear hK K
  (try simp only [List.getElem_toArray, List.getElem_cons_succ, List.getElem_cons_zero, Act.put, List.setIfInBounds_toArray, List.set_cons_zero, List.set_cons_succ])
  refine wpAnyH_take (i := 7) (oi := ?o5) (v := ?v5) ?hi5 ?hs5 ?hf5 ?hr5 ?hQ5 ?hy5 ?hS5 ?rest5
  case hi5 => rfl
  case hs5 => kernel_rfl
  case hf5 => kernel_rfl
  case hr5 => kernel_rfl
  case hQ5 => exact fun _ _ _ h => h
  case hS5 => assumption
  case hy5 =>
    refine Or.inl ⟨by kernel_rfl, ?_⟩
    intro w' hSw
    (try dsimp only at hSw)
    go_simp
    (try rfl)
  (try simp only [List.getElem_toArray, List.getElem_cons_succ, List.getElem_cons_zero, Act.put, List.setIfInBounds_toArray, List.set_cons_zero, List.set_cons_succ])
  refine wpAnyH_done (by kernel_rfl) ?_ _
  refine NoPanic.normal ?_
  go_wp2_with fail
  (try simp only [Exit.inBlock, Exit.then])
  refine bodyPost_ret (v := .tuple #[.agg #[.bool r, .int .u64 x, .int .u64 y], .bool k]) ?_ rfl ⟨HADD.out.symm, ?_⟩
  · rw [results_cell_tmp rfl]
    go_simp
  · repeat' (first | with_reducible exact HT.out | with_reducible refine Below.drew ?_ | refine Below.setCell ?_ (by simp <;> omega) _)
end Go.Proofs.Ytjmlpeapbealfaa
