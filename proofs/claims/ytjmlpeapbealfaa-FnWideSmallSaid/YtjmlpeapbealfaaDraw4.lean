
/-
  Draws of two wide numbers, of a text, of a wide number and a digit.
-/
import Derived.Test.YtjmlpeapbealfaaDraw3
import Derived.Test.YtjmlpeapbealfaaWideG
import Derived.Test.YtjmlpeapbealfaaBox3
import Derived.Test.YtjmlpeapbealfaaReadS
namespace Go.Proofs.Ytjmlpeapbealfaa
open Go.RowKit

/-- Two wide numbers, whatever they are. -/
def TwoWOut (e : Ending) : Prop := ∃ (n : Bool) (h l : Int) (m : Bool) (k j : Int), (0 ≤ h ∧ h < 18446744073709551616) ∧ (0 ≤ l ∧ l < 18446744073709551616) ∧ (0 ≤ k ∧ k < 18446744073709551616) ∧ (0 ≤ j ∧ j < 18446744073709551616) ∧ e = .returned (.tuple #[.agg #[.bool n, .int .u64 h, .int .u64 l], .agg #[.bool m, .int .u64 k, .int .u64 j]])
theorem results_cells2 {fn : Func} {p q : Tmp} {ty tz : TypeId} (h : fn.results = #[.cell p ty, .cell q tz]) (tmps : Array Value) (P : Program) (w : World) :
    (results fn tmps).run P w = ((asAddr (tmps.getD p undef)).run P w).andThen fun a w1 => ((loadVar ty a).run P w1).andThen fun u w2 => ((asAddr (tmps.getD q undef)).run P w2).andThen fun b w3 => ((loadVar tz b).run P w3).andThen fun v w4 => .ok (.tuple #[u, v]) w4 := by
  simp only [results, h]
  simp [Sem.run_bind, Result.andThen]

theorem Cur.drew {W w : World} {p : Nat} (h : Cur W w p) : Cur W w.drew p := by
  obtain ⟨hp, hB, v, n, i, y, hby, hi, h0, h1, hblk⟩ := h
  exact ⟨hp, hB.drew, v, n, i, y, hby, hi, h0, h1, hblk⟩
set_option maxRecDepth 100000 in
set_option maxHeartbeats 4000000 in
theorem l3Two (w : World) (v : Value) (n : Nat) (hb : Bytes w v n) :
    Calls Try.prog 49 #[v] w fun e w' => TwoWOut e ∧ Below w.heap.size w w' := by
  go_enter Try.func49, Try.ntmps49
  go_wp2_with fail
  have hb1 : Bytes ((w.alloc (.cells #[.bool false, .int .u64 0, .int .u64 0] 30)).alloc (.cells #[.bool false, .int .u64 0, .int .u64 0] 30)) v n := hb.mono (((Below.refl _ _).alloc (Nat.le_refl _) _).alloc (by simp) _)
  have hsz : ((w.alloc (.cells #[.bool false, .int .u64 0, .int .u64 0] 30)).alloc (.cells #[.bool false, .int .u64 0, .int .u64 0] 30)).heap.size = w.heap.size + 1 + 1 := by simp
  refine (l1New ((w.alloc (.cells #[.bool false, .int .u64 0, .int .u64 0] 30)).alloc (.cells #[.bool false, .int .u64 0, .int .u64 0] 30)) v n hb1).mono ?_
  rintro e w1 ⟨rfl, hc1, _⟩
  rw [hsz] at hc1
  clear hb1
  go_wp2_with fail
  refine (l3Wide ((w.alloc (.cells #[.bool false, .int .u64 0, .int .u64 0] 30)).alloc (.cells #[.bool false, .int .u64 0, .int .u64 0] 30)) _ _ hc1).mono ?_
  rintro e w2 ⟨⟨n0, h0, l0, hh, hl, rfl⟩, hc2⟩
  go_wp2_with fail
  refine (l1Below ((w.alloc (.cells #[.bool false, .int .u64 0, .int .u64 0] 30)).alloc (.cells #[.bool false, .int .u64 0, .int .u64 0] 30)) _ _ 4 (by omega) (by omega) (hc2.alloc _)).mono ?_
  rintro e w3 ⟨⟨m, hm, rfl⟩, hc3, hg3⟩
  have hXa := arr_grown hg3 (by have := hc2.lt; omega)
  have hm4 : m = 0 ∨ m = 1 ∨ m = 2 ∨ m = 3 := by omega
  rcases hm4 with rfl | rfl | rfl | rfl
  · skip
    obtain ⟨hXr, hXs, hBB, hs⟩ := box2 (cur_below hc3)
    have HT := Lib.hid hBB
    clear hBB
    have hl2 : w2.heap.size < w3.heap.size := by have := hg3.size; simp at this; omega
    have hlw : w.heap.size + 1 < w2.heap.size := by have := (cur_below hc2).size; rw [hsz] at this; omega
    have hca0 : w3.cell? ⟨w2.heap.size, 0, none⟩ = some (.bool n0) := cell_blk hXa 0
    have hfa0 := free_blk hXa 0
    have hca1 : w3.cell? ⟨w2.heap.size, 1, none⟩ = some (.int .u64 h0) := cell_blk hXa 1
    have hfa1 := free_blk hXa 1
    have hca2 : w3.cell? ⟨w2.heap.size, 2, none⟩ = some (.int .u64 l0) := cell_blk hXa 2
    have hfa2 := free_blk hXa 2
    go_wp2_with fail
    clear hca0 hca1 hca2 hfa0 hfa1 hfa2
    refine wp_region_noPanic ?_
    refine wp_region_held_drew (S := (fun w' => w'.cell? ⟨w2.heap.size, 0, none⟩ = some (.bool n0) ∧ w'.cell? ⟨w2.heap.size, 1, none⟩ = some (.int .u64 h0) ∧ w'.cell? ⟨w2.heap.size, 2, none⟩ = some (.int .u64 l0) ∧ Below w.heap.size w w')) (by kernel_rfl) ⟨cell_blk (w := w3) hXa 0, cell_blk (w := w3) hXa 1, cell_blk (w := w3) hXa 2, HT.out.drew⟩ (fun hHeld => ?_)
    refine wpAnyH_take (i := 0) (oi := ?o1) (v := ?v1) ?hi1 ?hs1 ?hf1 ?hr1 ?hQ1 ?hy1 ?hS1 ?rest1
    case hi1 => rfl
    case hs1 => kernel_rfl
    case hf1 => kernel_rfl
    case hr1 => kernel_rfl
    case hQ1 => exact fun _ _ _ h => h
    case hS1 => assumption
    case hy1 =>
      refine Or.inl ⟨by kernel_rfl, ?_⟩
      intro w' hSw
      (try dsimp only at hSw)
      go_simp
      (try rfl)
    (try simp only [List.getElem_toArray, List.getElem_cons_zero, Act.put, List.setIfInBounds_toArray, List.set_cons_zero, List.set_cons_succ])
    refine wpAnyH_take (i := 1) (oi := ?o2) (v := ?v2) ?hi2 ?hs2 ?hf2 ?hr2 ?hQ2 ?hy2 ?hS2 ?rest2
    case hi2 => rfl
    case hs2 => kernel_rfl
    case hf2 => kernel_rfl
    case hr2 => kernel_rfl
    case hQ2 => exact fun _ _ _ h => h
    case hS2 => assumption
    case hy2 =>
      refine Or.inl ⟨by kernel_rfl, ?_⟩
      intro w' hSw
      (try dsimp only at hSw)
      go_simp
      (try rfl)
    (try simp only [List.getElem_toArray, List.getElem_cons_succ, List.getElem_cons_zero, Act.put, List.setIfInBounds_toArray, List.set_cons_zero, List.set_cons_succ])
    refine wpAnyH_ready (rs := [2]) (by kernel_rfl) (by simp) ?_
    refine AllReadyH.cons rfl (fun K hK => ?_) AllReadyH.nil
    go_simp
    refine (specNegWide n0 h0 l0 _).mono ?_
    rintro e w4 ⟨rfl, hB4⟩
    replace hB4 := below_of_drew hB4
    replace hXa := box_still hXa hB4
    replace hXr := box_still hXr hB4
    replace hXs := box_still hXs hB4
    replace HT := Lib.hid (bt2 HT.out hB4)
    clear hB4
    refine hK.out _ _ ?_ (fun hHeld => ?_)
    · exact ⟨cell_blk hXa 0, cell_blk hXa 1, cell_blk hXa 2, HT.out⟩
    clear hK K
    (try simp only [List.getElem_toArray, List.getElem_cons_succ, List.getElem_cons_zero, Act.put, List.setIfInBounds_toArray, List.set_cons_zero, List.set_cons_succ])
    have hcr0 : w4.cell? ⟨w.heap.size, 0, none⟩ = some (.bool false) := cell_blk hXr 0
    have hfr0 := free_blk hXr 0
    have hcr1 : w4.cell? ⟨w.heap.size, 1, none⟩ = some (.int .u64 0) := cell_blk hXr 1
    have hfr1 := free_blk hXr 1
    have hcr2 : w4.cell? ⟨w.heap.size, 2, none⟩ = some (.int .u64 0) := cell_blk hXr 2
    have hfr2 := free_blk hXr 2
    have hcs0 : w4.cell? ⟨(w.heap.size + 1), 0, none⟩ = some (.bool false) := cell_blk hXs 0
    have hfs0 := free_blk hXs 0
    have hcs1 : w4.cell? ⟨(w.heap.size + 1), 1, none⟩ = some (.int .u64 0) := cell_blk hXs 1
    have hfs1 := free_blk hXs 1
    have hcs2 : w4.cell? ⟨(w.heap.size + 1), 2, none⟩ = some (.int .u64 0) := cell_blk hXs 2
    have hfs2 := free_blk hXs 2
    refine wpAnyH_ready (rs := [3]) (by kernel_rfl) (by simp) ?_
    refine AllReadyH.cons rfl (fun K hK => ?_) AllReadyH.nil
    go_simp
    refine hK.out _ _ ?_ (fun hHeld => ?_)
    · exact ⟨(st3_far _ _ _ _ _ _ _ (by omega)).trans (cell_blk hXa 0), (st3_far _ _ _ _ _ _ _ (by omega)).trans (cell_blk hXa 1), (st3_far _ _ _ _ _ _ _ (by omega)).trans (cell_blk hXa 2), (st3_below HT.out (Nat.le_refl _) _ _ _)⟩
    clear hK K
    (try simp only [List.getElem_toArray, List.getElem_cons_succ, List.getElem_cons_zero, Act.put, List.setIfInBounds_toArray, List.set_cons_zero, List.set_cons_succ])
    refine wpAnyH_ready (rs := [4]) (by kernel_rfl) (by simp) ?_
    refine AllReadyH.cons rfl (fun K hK => ?_) AllReadyH.nil
    go_simp
    refine hK.out _ _ ?_ (fun hHeld => ?_)
    · exact ⟨(st3_far _ _ _ _ _ _ _ (by omega)).trans ((st3_far _ _ _ _ _ _ _ (by omega)).trans (cell_blk hXa 0)), (st3_far _ _ _ _ _ _ _ (by omega)).trans ((st3_far _ _ _ _ _ _ _ (by omega)).trans (cell_blk hXa 1)), (st3_far _ _ _ _ _ _ _ (by omega)).trans ((st3_far _ _ _ _ _ _ _ (by omega)).trans (cell_blk hXa 2)), (st3_below (st3_below HT.out (Nat.le_refl _) _ _ _) (by omega) _ _ _)⟩
    clear hK K
    (try simp only [List.getElem_toArray, List.getElem_cons_succ, List.getElem_cons_zero, Act.put, List.setIfInBounds_toArray, List.set_cons_zero, List.set_cons_succ])
    refine wpAnyH_done (by kernel_rfl) ?_ _
    refine NoPanic.normal ?_
    go_wp2_with fail
    (try simp only [Exit.inBlock, Exit.then])
    refine bodyPost_ret (v := .tuple #[.agg #[.bool n0, .int .u64 h0, .int .u64 l0], .agg #[.bool (negV n0 h0 l0), .int .u64 h0, .int .u64 l0]]) ?_ rfl ⟨⟨_, _, _, _, _, _, hh, hl, hh, hl, rfl⟩, ?_⟩
    · rw [results_cells2 rfl]
      go_simp
    · repeat' (first | with_reducible exact HT.out | with_reducible exact HT.out.drew | with_reducible refine Below.drew ?_ | refine Below.setCell ?_ (by simp <;> omega) _)
  · skip
    obtain ⟨hXr, hXs, hBB, hs⟩ := box2 (cur_below hc3)
    have HT := Lib.hid hBB
    clear hBB
    have hl2 : w2.heap.size < w3.heap.size := by have := hg3.size; simp at this; omega
    have hlw : w.heap.size + 1 < w2.heap.size := by have := (cur_below hc2).size; rw [hsz] at this; omega
    have hca0 : w3.cell? ⟨w2.heap.size, 0, none⟩ = some (.bool n0) := cell_blk hXa 0
    have hfa0 := free_blk hXa 0
    have hca1 : w3.cell? ⟨w2.heap.size, 1, none⟩ = some (.int .u64 h0) := cell_blk hXa 1
    have hfa1 := free_blk hXa 1
    have hca2 : w3.cell? ⟨w2.heap.size, 2, none⟩ = some (.int .u64 l0) := cell_blk hXa 2
    have hfa2 := free_blk hXa 2
    go_wp2_with fail
    clear hca0 hca1 hca2 hfa0 hfa1 hfa2
    replace hXa : w3.drew.heap[w2.heap.size]? = some (.cells #[.bool n0, .int .u64 h0, .int .u64 l0] 30 (0, 0)) := hXa
    replace hXr : w3.drew.heap[w.heap.size]? = some (.cells #[.bool false, .int .u64 0, .int .u64 0] 30 (0, 0)) := hXr
    replace hXs : w3.drew.heap[w.heap.size + 1]? = some (.cells #[.bool false, .int .u64 0, .int .u64 0] 30 (0, 0)) := hXs
    have HTd := Lib.hid HT.out.drew
    have hS0 : w3.drew.cell? ⟨w2.heap.size, 0, none⟩ = some (.bool n0) ∧ w3.drew.cell? ⟨w2.heap.size, 1, none⟩ = some (.int .u64 h0) ∧ w3.drew.cell? ⟨w2.heap.size, 2, none⟩ = some (.int .u64 l0) ∧ Below w.heap.size w w3.drew := ⟨cell_blk hXa 0, cell_blk hXa 1, cell_blk hXa 2, HTd.out⟩
    refine wp_region_noPanic ?_
    refine wp_region_held_drew (S := (fun w' => w'.cell? ⟨w2.heap.size, 0, none⟩ = some (.bool n0) ∧ w'.cell? ⟨w2.heap.size, 1, none⟩ = some (.int .u64 h0) ∧ w'.cell? ⟨w2.heap.size, 2, none⟩ = some (.int .u64 l0) ∧ Below w.heap.size w w')) (by kernel_rfl) hS0 (fun hHeld => ?_)
    clear HT hS0 hc3 hg3 hl2 hs
    have HT := HTd
    clear HTd
    generalize w3.drew = w4 at *
    refine wpAnyH_take (i := 0) (oi := ?o3) (v := ?v3) ?hi3 ?hs3 ?hf3 ?hr3 ?hQ3 ?hy3 ?hS3 ?rest3
    case hi3 => rfl
    case hs3 => kernel_rfl
    case hf3 => kernel_rfl
    case hr3 => kernel_rfl
    case hQ3 => exact fun _ _ _ h => h
    case hS3 => assumption
    case hy3 =>
      refine Or.inl ⟨by kernel_rfl, ?_⟩
      intro w' hSw
      (try dsimp only at hSw)
      go_simp
      (try rfl)
    (try simp only [List.getElem_toArray, List.getElem_cons_zero, Act.put, List.setIfInBounds_toArray, List.set_cons_zero, List.set_cons_succ])
    refine wpAnyH_take (i := 1) (oi := ?o4) (v := ?v4) ?hi4 ?hs4 ?hf4 ?hr4 ?hQ4 ?hy4 ?hS4 ?rest4
    case hi4 => rfl
    case hs4 => kernel_rfl
    case hf4 => kernel_rfl
    case hr4 => kernel_rfl
    case hQ4 => exact fun _ _ _ h => h
    case hS4 => assumption
    case hy4 =>
      refine Or.inl ⟨by kernel_rfl, ?_⟩
      intro w' hSw
      (try dsimp only at hSw)
      go_simp
      (try rfl)
    (try simp only [List.getElem_toArray, List.getElem_cons_succ, List.getElem_cons_zero, Act.put, List.setIfInBounds_toArray, List.set_cons_zero, List.set_cons_succ])
    have hcr0 : w4.cell? ⟨w.heap.size, 0, none⟩ = some (.bool false) := cell_blk hXr 0
    have hfr0 := free_blk hXr 0
    have hcr1 : w4.cell? ⟨w.heap.size, 1, none⟩ = some (.int .u64 0) := cell_blk hXr 1
    have hfr1 := free_blk hXr 1
    have hcr2 : w4.cell? ⟨w.heap.size, 2, none⟩ = some (.int .u64 0) := cell_blk hXr 2
    have hfr2 := free_blk hXr 2
    have hcs0 : w4.cell? ⟨(w.heap.size + 1), 0, none⟩ = some (.bool false) := cell_blk hXs 0
    have hfs0 := free_blk hXs 0
    have hcs1 : w4.cell? ⟨(w.heap.size + 1), 1, none⟩ = some (.int .u64 0) := cell_blk hXs 1
    have hfs1 := free_blk hXs 1
    have hcs2 : w4.cell? ⟨(w.heap.size + 1), 2, none⟩ = some (.int .u64 0) := cell_blk hXs 2
    have hfs2 := free_blk hXs 2
    refine wpAnyH_ready (rs := [2]) (by kernel_rfl) (by simp) ?_
    refine AllReadyH.cons rfl (fun K hK => ?_) AllReadyH.nil
    go_simp
    refine hK.out _ _ ?_ (fun hHeld => ?_)
    · exact ⟨(st3_far _ _ _ _ _ _ _ (by omega)).trans (cell_blk hXa 0), (st3_far _ _ _ _ _ _ _ (by omega)).trans (cell_blk hXa 1), (st3_far _ _ _ _ _ _ _ (by omega)).trans (cell_blk hXa 2), (st3_below HT.out (Nat.le_refl _) _ _ _)⟩
    clear hK K
    (try simp only [List.getElem_toArray, List.getElem_cons_succ, List.getElem_cons_zero, Act.put, List.setIfInBounds_toArray, List.set_cons_zero, List.set_cons_succ])
    refine wpAnyH_ready (rs := [3]) (by kernel_rfl) (by simp) ?_
    refine AllReadyH.cons rfl (fun K hK => ?_) AllReadyH.nil
    go_simp
    refine hK.out _ _ ?_ (fun hHeld => ?_)
    · exact ⟨(st3_far _ _ _ _ _ _ _ (by omega)).trans ((st3_far _ _ _ _ _ _ _ (by omega)).trans (cell_blk hXa 0)), (st3_far _ _ _ _ _ _ _ (by omega)).trans ((st3_far _ _ _ _ _ _ _ (by omega)).trans (cell_blk hXa 1)), (st3_far _ _ _ _ _ _ _ (by omega)).trans ((st3_far _ _ _ _ _ _ _ (by omega)).trans (cell_blk hXa 2)), (st3_below (st3_below HT.out (Nat.le_refl _) _ _ _) (by omega) _ _ _)⟩
    clear hK K
    (try simp only [List.getElem_toArray, List.getElem_cons_succ, List.getElem_cons_zero, Act.put, List.setIfInBounds_toArray, List.set_cons_zero, List.set_cons_succ])
    refine wpAnyH_done (by kernel_rfl) ?_ _
    refine NoPanic.normal ?_
    go_wp2_with fail
    (try simp only [Exit.inBlock, Exit.then])
    refine bodyPost_ret (v := .tuple #[.agg #[.bool n0, .int .u64 h0, .int .u64 l0], .agg #[.bool n0, .int .u64 h0, .int .u64 l0]]) ?_ rfl ⟨⟨_, _, _, _, _, _, hh, hl, hh, hl, rfl⟩, ?_⟩
    · rw [results_cells2 rfl]
      go_simp
    · repeat' (first | with_reducible exact HT.out | with_reducible exact HT.out.drew | with_reducible refine Below.drew ?_ | refine Below.setCell ?_ (by simp <;> omega) _)
  · skip
    obtain ⟨hXr, hXs, hBB, hs⟩ := box2 (cur_below hc3)
    have HT := Lib.hid hBB
    clear hBB
    have hl2 : w2.heap.size < w3.heap.size := by have := hg3.size; simp at this; omega
    have hlw : w.heap.size + 1 < w2.heap.size := by have := (cur_below hc2).size; rw [hsz] at this; omega
    have hca0 : w3.cell? ⟨w2.heap.size, 0, none⟩ = some (.bool n0) := cell_blk hXa 0
    have hfa0 := free_blk hXa 0
    have hca1 : w3.cell? ⟨w2.heap.size, 1, none⟩ = some (.int .u64 h0) := cell_blk hXa 1
    have hfa1 := free_blk hXa 1
    have hca2 : w3.cell? ⟨w2.heap.size, 2, none⟩ = some (.int .u64 l0) := cell_blk hXa 2
    have hfa2 := free_blk hXa 2
    go_wp2_with fail
    clear hca0 hca1 hca2 hfa0 hfa1 hfa2
    refine wp_region_noPanic ?_
    refine wp_region_held_drew (S := (fun w' => w'.cell? ⟨w2.heap.size, 0, none⟩ = some (.bool n0) ∧ w'.cell? ⟨w2.heap.size, 1, none⟩ = some (.int .u64 h0) ∧ w'.cell? ⟨w2.heap.size, 2, none⟩ = some (.int .u64 l0) ∧ Below w.heap.size w w')) (by kernel_rfl) ⟨cell_blk (w := w3) hXa 0, cell_blk (w := w3) hXa 1, cell_blk (w := w3) hXa 2, HT.out.drew⟩ (fun hHeld => ?_)
    refine wpAnyH_take (i := 0) (oi := ?o5) (v := ?v5) ?hi5 ?hs5 ?hf5 ?hr5 ?hQ5 ?hy5 ?hS5 ?rest5
    case hi5 => rfl
    case hs5 => kernel_rfl
    case hf5 => kernel_rfl
    case hr5 => kernel_rfl
    case hQ5 => exact fun _ _ _ h => h
    case hS5 => assumption
    case hy5 =>
      refine Or.inl ⟨by kernel_rfl, ?_⟩
      intro w' hSw
      (try dsimp only at hSw)
      go_simp
      (try rfl)
    (try simp only [List.getElem_toArray, List.getElem_cons_zero, Act.put, List.setIfInBounds_toArray, List.set_cons_zero, List.set_cons_succ])
    refine wpAnyH_take (i := 1) (oi := ?o6) (v := ?v6) ?hi6 ?hs6 ?hf6 ?hr6 ?hQ6 ?hy6 ?hS6 ?rest6
    case hi6 => rfl
    case hs6 => kernel_rfl
    case hf6 => kernel_rfl
    case hr6 => kernel_rfl
    case hQ6 => exact fun _ _ _ h => h
    case hS6 => assumption
    case hy6 =>
      refine Or.inl ⟨by kernel_rfl, ?_⟩
      intro w' hSw
      (try dsimp only at hSw)
      go_simp
      (try rfl)
    (try simp only [List.getElem_toArray, List.getElem_cons_succ, List.getElem_cons_zero, Act.put, List.setIfInBounds_toArray, List.set_cons_zero, List.set_cons_succ])
    refine wpAnyH_ready (rs := [2]) (by kernel_rfl) (by simp) ?_
    refine AllReadyH.cons rfl (fun K hK => ?_) AllReadyH.nil
    go_simp
    refine (l3WideG ((w.alloc (.cells #[.bool false, .int .u64 0, .int .u64 0] 30)).alloc (.cells #[.bool false, .int .u64 0, .int .u64 0] 30)) _ _ hc3.drew).mono ?_
    rintro e w4 ⟨⟨n1, h1, l1, kh, kl, rfl⟩, hc4, hg4⟩
    obtain ⟨hXr4, hXs4, hBB4, hs4⟩ := box2 (cur_below hc4)
    replace hXa := (hg4.block w2.heap.size hl2 (by have := hc2.lt; simp; omega)).trans hXa
    replace HT := Lib.hid hBB4
    clear hXr hXs hBB4 hs4
    have hXr := hXr4
    have hXs := hXs4
    clear hXr4 hXs4
    refine hK.out _ _ ?_ (fun hHeld => ?_)
    · exact ⟨cell_blk hXa 0, cell_blk hXa 1, cell_blk hXa 2, HT.out⟩
    clear hK K
    (try simp only [List.getElem_toArray, List.getElem_cons_succ, List.getElem_cons_zero, Act.put, List.setIfInBounds_toArray, List.set_cons_zero, List.set_cons_succ])
    have hcr0 : w4.cell? ⟨w.heap.size, 0, none⟩ = some (.bool false) := cell_blk hXr 0
    have hfr0 := free_blk hXr 0
    have hcr1 : w4.cell? ⟨w.heap.size, 1, none⟩ = some (.int .u64 0) := cell_blk hXr 1
    have hfr1 := free_blk hXr 1
    have hcr2 : w4.cell? ⟨w.heap.size, 2, none⟩ = some (.int .u64 0) := cell_blk hXr 2
    have hfr2 := free_blk hXr 2
    have hcs0 : w4.cell? ⟨(w.heap.size + 1), 0, none⟩ = some (.bool false) := cell_blk hXs 0
    have hfs0 := free_blk hXs 0
    have hcs1 : w4.cell? ⟨(w.heap.size + 1), 1, none⟩ = some (.int .u64 0) := cell_blk hXs 1
    have hfs1 := free_blk hXs 1
    have hcs2 : w4.cell? ⟨(w.heap.size + 1), 2, none⟩ = some (.int .u64 0) := cell_blk hXs 2
    have hfs2 := free_blk hXs 2
    refine wpAnyH_ready (rs := [3]) (by kernel_rfl) (by simp) ?_
    refine AllReadyH.cons rfl (fun K hK => ?_) AllReadyH.nil
    go_simp
    refine hK.out _ _ ?_ (fun hHeld => ?_)
    · exact ⟨(st3_far _ _ _ _ _ _ _ (by omega)).trans (cell_blk hXa 0), (st3_far _ _ _ _ _ _ _ (by omega)).trans (cell_blk hXa 1), (st3_far _ _ _ _ _ _ _ (by omega)).trans (cell_blk hXa 2), (st3_below HT.out (Nat.le_refl _) _ _ _)⟩
    clear hK K
    (try simp only [List.getElem_toArray, List.getElem_cons_succ, List.getElem_cons_zero, Act.put, List.setIfInBounds_toArray, List.set_cons_zero, List.set_cons_succ])
    refine wpAnyH_ready (rs := [4]) (by kernel_rfl) (by simp) ?_
    refine AllReadyH.cons rfl (fun K hK => ?_) AllReadyH.nil
    go_simp
    refine hK.out _ _ ?_ (fun hHeld => ?_)
    · exact ⟨(st3_far _ _ _ _ _ _ _ (by omega)).trans ((st3_far _ _ _ _ _ _ _ (by omega)).trans (cell_blk hXa 0)), (st3_far _ _ _ _ _ _ _ (by omega)).trans ((st3_far _ _ _ _ _ _ _ (by omega)).trans (cell_blk hXa 1)), (st3_far _ _ _ _ _ _ _ (by omega)).trans ((st3_far _ _ _ _ _ _ _ (by omega)).trans (cell_blk hXa 2)), (st3_below (st3_below HT.out (Nat.le_refl _) _ _ _) (by omega) _ _ _)⟩
    clear hK K
    (try simp only [List.getElem_toArray, List.getElem_cons_succ, List.getElem_cons_zero, Act.put, List.setIfInBounds_toArray, List.set_cons_zero, List.set_cons_succ])
    refine wpAnyH_done (by kernel_rfl) ?_ _
    refine NoPanic.normal ?_
    go_wp2_with fail
    (try simp only [Exit.inBlock, Exit.then])
    refine bodyPost_ret (v := .tuple #[.agg #[.bool n0, .int .u64 h0, .int .u64 l0], .agg #[.bool n1, .int .u64 h1, .int .u64 l1]]) ?_ rfl ⟨⟨_, _, _, _, _, _, hh, hl, kh, kl, rfl⟩, ?_⟩
    · rw [results_cells2 rfl]
      go_simp
    · repeat' (first | with_reducible exact HT.out | with_reducible exact HT.out.drew | with_reducible refine Below.drew ?_ | refine Below.setCell ?_ (by simp <;> omega) _)
  · skip
    obtain ⟨hXr, hXs, hBB, hs⟩ := box2 (cur_below hc3)
    have HT := Lib.hid hBB
    clear hBB
    have hl2 : w2.heap.size < w3.heap.size := by have := hg3.size; simp at this; omega
    have hlw : w.heap.size + 1 < w2.heap.size := by have := (cur_below hc2).size; rw [hsz] at this; omega
    have hca0 : w3.cell? ⟨w2.heap.size, 0, none⟩ = some (.bool n0) := cell_blk hXa 0
    have hfa0 := free_blk hXa 0
    have hca1 : w3.cell? ⟨w2.heap.size, 1, none⟩ = some (.int .u64 h0) := cell_blk hXa 1
    have hfa1 := free_blk hXa 1
    have hca2 : w3.cell? ⟨w2.heap.size, 2, none⟩ = some (.int .u64 l0) := cell_blk hXa 2
    have hfa2 := free_blk hXa 2
    go_wp2_with fail
    clear hca0 hca1 hca2 hfa0 hfa1 hfa2
    refine wp_region_noPanic ?_
    refine wp_region_held_drew (S := (fun w' => w'.cell? ⟨w2.heap.size, 0, none⟩ = some (.bool n0) ∧ w'.cell? ⟨w2.heap.size, 1, none⟩ = some (.int .u64 h0) ∧ w'.cell? ⟨w2.heap.size, 2, none⟩ = some (.int .u64 l0) ∧ Below w.heap.size w w')) (by kernel_rfl) ⟨cell_blk (w := w3) hXa 0, cell_blk (w := w3) hXa 1, cell_blk (w := w3) hXa 2, HT.out.drew⟩ (fun hHeld => ?_)
    refine wpAnyH_take (i := 0) (oi := ?o7) (v := ?v7) ?hi7 ?hs7 ?hf7 ?hr7 ?hQ7 ?hy7 ?hS7 ?rest7
    case hi7 => rfl
    case hs7 => kernel_rfl
    case hf7 => kernel_rfl
    case hr7 => kernel_rfl
    case hQ7 => exact fun _ _ _ h => h
    case hS7 => assumption
    case hy7 =>
      refine Or.inl ⟨by kernel_rfl, ?_⟩
      intro w' hSw
      (try dsimp only at hSw)
      go_simp
      (try rfl)
    (try simp only [List.getElem_toArray, List.getElem_cons_zero, Act.put, List.setIfInBounds_toArray, List.set_cons_zero, List.set_cons_succ])
    refine wpAnyH_take (i := 1) (oi := ?o8) (v := ?v8) ?hi8 ?hs8 ?hf8 ?hr8 ?hQ8 ?hy8 ?hS8 ?rest8
    case hi8 => rfl
    case hs8 => kernel_rfl
    case hf8 => kernel_rfl
    case hr8 => kernel_rfl
    case hQ8 => exact fun _ _ _ h => h
    case hS8 => assumption
    case hy8 =>
      refine Or.inl ⟨by kernel_rfl, ?_⟩
      intro w' hSw
      (try dsimp only at hSw)
      go_simp
      (try rfl)
    (try simp only [List.getElem_toArray, List.getElem_cons_succ, List.getElem_cons_zero, Act.put, List.setIfInBounds_toArray, List.set_cons_zero, List.set_cons_succ])
    refine wpAnyH_ready (rs := [2]) (by kernel_rfl) (by simp) ?_
    refine AllReadyH.cons rfl (fun K hK => ?_) AllReadyH.nil
    go_simp
    refine (l3WideG ((w.alloc (.cells #[.bool false, .int .u64 0, .int .u64 0] 30)).alloc (.cells #[.bool false, .int .u64 0, .int .u64 0] 30)) _ _ hc3.drew).mono ?_
    rintro e w4 ⟨⟨n1, h1, l1, kh, kl, rfl⟩, hc4, hg4⟩
    obtain ⟨hXr4, hXs4, hBB4, hs4⟩ := box2 (cur_below hc4)
    replace hXa := (hg4.block w2.heap.size hl2 (by have := hc2.lt; simp; omega)).trans hXa
    replace HT := Lib.hid hBB4
    clear hXr hXs hBB4 hs4
    have hXr := hXr4
    have hXs := hXs4
    clear hXr4 hXs4
    refine hK.out _ _ ?_ (fun hHeld => ?_)
    · exact ⟨cell_blk hXa 0, cell_blk hXa 1, cell_blk hXa 2, HT.out⟩
    clear hK K
    (try simp only [List.getElem_toArray, List.getElem_cons_succ, List.getElem_cons_zero, Act.put, List.setIfInBounds_toArray, List.set_cons_zero, List.set_cons_succ])
    have hcr0 : w4.cell? ⟨w.heap.size, 0, none⟩ = some (.bool false) := cell_blk hXr 0
    have hfr0 := free_blk hXr 0
    have hcr1 : w4.cell? ⟨w.heap.size, 1, none⟩ = some (.int .u64 0) := cell_blk hXr 1
    have hfr1 := free_blk hXr 1
    have hcr2 : w4.cell? ⟨w.heap.size, 2, none⟩ = some (.int .u64 0) := cell_blk hXr 2
    have hfr2 := free_blk hXr 2
    have hcs0 : w4.cell? ⟨(w.heap.size + 1), 0, none⟩ = some (.bool false) := cell_blk hXs 0
    have hfs0 := free_blk hXs 0
    have hcs1 : w4.cell? ⟨(w.heap.size + 1), 1, none⟩ = some (.int .u64 0) := cell_blk hXs 1
    have hfs1 := free_blk hXs 1
    have hcs2 : w4.cell? ⟨(w.heap.size + 1), 2, none⟩ = some (.int .u64 0) := cell_blk hXs 2
    have hfs2 := free_blk hXs 2
    refine wpAnyH_ready (rs := [3]) (by kernel_rfl) (by simp) ?_
    refine AllReadyH.cons rfl (fun K hK => ?_) AllReadyH.nil
    go_simp
    refine hK.out _ _ ?_ (fun hHeld => ?_)
    · exact ⟨(st3_far _ _ _ _ _ _ _ (by omega)).trans (cell_blk hXa 0), (st3_far _ _ _ _ _ _ _ (by omega)).trans (cell_blk hXa 1), (st3_far _ _ _ _ _ _ _ (by omega)).trans (cell_blk hXa 2), (st3_below HT.out (Nat.le_refl _) _ _ _)⟩
    clear hK K
    (try simp only [List.getElem_toArray, List.getElem_cons_succ, List.getElem_cons_zero, Act.put, List.setIfInBounds_toArray, List.set_cons_zero, List.set_cons_succ])
    refine wpAnyH_ready (rs := [4]) (by kernel_rfl) (by simp) ?_
    refine AllReadyH.cons rfl (fun K hK => ?_) AllReadyH.nil
    go_simp
    refine hK.out _ _ ?_ (fun hHeld => ?_)
    · exact ⟨(st3_far _ _ _ _ _ _ _ (by omega)).trans ((st3_far _ _ _ _ _ _ _ (by omega)).trans (cell_blk hXa 0)), (st3_far _ _ _ _ _ _ _ (by omega)).trans ((st3_far _ _ _ _ _ _ _ (by omega)).trans (cell_blk hXa 1)), (st3_far _ _ _ _ _ _ _ (by omega)).trans ((st3_far _ _ _ _ _ _ _ (by omega)).trans (cell_blk hXa 2)), (st3_below (st3_below HT.out (Nat.le_refl _) _ _ _) (by omega) _ _ _)⟩
    clear hK K
    (try simp only [List.getElem_toArray, List.getElem_cons_succ, List.getElem_cons_zero, Act.put, List.setIfInBounds_toArray, List.set_cons_zero, List.set_cons_succ])
    refine wpAnyH_done (by kernel_rfl) ?_ _
    refine NoPanic.normal ?_
    go_wp2_with fail
    (try simp only [Exit.inBlock, Exit.then])
    refine bodyPost_ret (v := .tuple #[.agg #[.bool n0, .int .u64 h0, .int .u64 l0], .agg #[.bool n1, .int .u64 h1, .int .u64 l1]]) ?_ rfl ⟨⟨_, _, _, _, _, _, hh, hl, kh, kl, rfl⟩, ?_⟩
    · rw [results_cells2 rfl]
      go_simp
    · repeat' (first | with_reducible exact HT.out | with_reducible exact HT.out.drew | with_reducible refine Below.drew ?_ | refine Below.setCell ?_ (by simp <;> omega) _)
set_option maxRecDepth 100000 in
set_option maxHeartbeats 1000000 in
theorem drawAddWide (w : World) (v : Value) (n : Nat) (hb : Bytes w v n) :
    Calls Try.prog 20 #[v] w fun e w' => TwoWOut e ∧ Below w.heap.size w w' := by
  go_enter Try.func20, Try.ntmps20
  go_wp2_with fail
  have hb1 : Bytes ((w.alloc (.cells #[.bool false, .int .u64 0, .int .u64 0] 30)).alloc (.cells #[.bool false, .int .u64 0, .int .u64 0] 30)) v n := hb.mono (((Below.refl _ _).alloc (Nat.le_refl _) _).alloc (by simp) _)
  refine (l3Two ((w.alloc (.cells #[.bool false, .int .u64 0, .int .u64 0] 30)).alloc (.cells #[.bool false, .int .u64 0, .int .u64 0] 30)) v n hb1).mono ?_
  rintro e w1 ⟨⟨n0, h0, l0, n1, h1, l1, hh, hl, kh, kl, rfl⟩, hB⟩
  obtain ⟨hXr, hXs, hBB, _⟩ := box2 hB
  have HT := Lib.hid hBB
  clear hBB hB hb1
  have hcr0 : w1.cell? ⟨w.heap.size, 0, none⟩ = some (.bool false) := cell_blk hXr 0
  have hfr0 := free_blk hXr 0
  have hcr1 : w1.cell? ⟨w.heap.size, 1, none⟩ = some (.int .u64 0) := cell_blk hXr 1
  have hfr1 := free_blk hXr 1
  have hcr2 : w1.cell? ⟨w.heap.size, 2, none⟩ = some (.int .u64 0) := cell_blk hXr 2
  have hfr2 := free_blk hXr 2
  have hcs0 : w1.cell? ⟨(w.heap.size + 1), 0, none⟩ = some (.bool false) := cell_blk hXs 0
  have hfs0 := free_blk hXs 0
  have hcs1 : w1.cell? ⟨(w.heap.size + 1), 1, none⟩ = some (.int .u64 0) := cell_blk hXs 1
  have hfs1 := free_blk hXs 1
  have hcs2 : w1.cell? ⟨(w.heap.size + 1), 2, none⟩ = some (.int .u64 0) := cell_blk hXs 2
  have hfs2 := free_blk hXs 2
  go_wp2_with fail
  (try simp only [Exit.inBlock, Exit.then])
  refine bodyPost_ret (v := .tuple #[.agg #[.bool n0, .int .u64 h0, .int .u64 l0], .agg #[.bool n1, .int .u64 h1, .int .u64 l1]]) ?_ rfl ⟨⟨_, _, _, _, _, _, hh, hl, kh, kl, rfl⟩, ?_⟩
  · rw [results_cells2 rfl]
    go_simp
  · repeat' (first | with_reducible exact HT.out | with_reducible refine Below.drew ?_ | refine Below.setCell ?_ (by simp <;> omega) _)
set_option maxRecDepth 100000 in
set_option maxHeartbeats 1000000 in
theorem drawCompareWide (w : World) (v : Value) (n : Nat) (hb : Bytes w v n) :
    Calls Try.prog 25 #[v] w fun e w' => TwoWOut e ∧ Below w.heap.size w w' := by
  go_enter Try.func25, Try.ntmps25
  go_wp2_with fail
  have hb1 : Bytes ((w.alloc (.cells #[.bool false, .int .u64 0, .int .u64 0] 30)).alloc (.cells #[.bool false, .int .u64 0, .int .u64 0] 30)) v n := hb.mono (((Below.refl _ _).alloc (Nat.le_refl _) _).alloc (by simp) _)
  refine (l3Two ((w.alloc (.cells #[.bool false, .int .u64 0, .int .u64 0] 30)).alloc (.cells #[.bool false, .int .u64 0, .int .u64 0] 30)) v n hb1).mono ?_
  rintro e w1 ⟨⟨n0, h0, l0, n1, h1, l1, hh, hl, kh, kl, rfl⟩, hB⟩
  obtain ⟨hXr, hXs, hBB, _⟩ := box2 hB
  have HT := Lib.hid hBB
  clear hBB hB hb1
  have hcr0 : w1.cell? ⟨w.heap.size, 0, none⟩ = some (.bool false) := cell_blk hXr 0
  have hfr0 := free_blk hXr 0
  have hcr1 : w1.cell? ⟨w.heap.size, 1, none⟩ = some (.int .u64 0) := cell_blk hXr 1
  have hfr1 := free_blk hXr 1
  have hcr2 : w1.cell? ⟨w.heap.size, 2, none⟩ = some (.int .u64 0) := cell_blk hXr 2
  have hfr2 := free_blk hXr 2
  have hcs0 : w1.cell? ⟨(w.heap.size + 1), 0, none⟩ = some (.bool false) := cell_blk hXs 0
  have hfs0 := free_blk hXs 0
  have hcs1 : w1.cell? ⟨(w.heap.size + 1), 1, none⟩ = some (.int .u64 0) := cell_blk hXs 1
  have hfs1 := free_blk hXs 1
  have hcs2 : w1.cell? ⟨(w.heap.size + 1), 2, none⟩ = some (.int .u64 0) := cell_blk hXs 2
  have hfs2 := free_blk hXs 2
  go_wp2_with fail
  (try simp only [Exit.inBlock, Exit.then])
  refine bodyPost_ret (v := .tuple #[.agg #[.bool n0, .int .u64 h0, .int .u64 l0], .agg #[.bool n1, .int .u64 h1, .int .u64 l1]]) ?_ rfl ⟨⟨_, _, _, _, _, _, hh, hl, kh, kl, rfl⟩, ?_⟩
  · rw [results_cells2 rfl]
    go_simp
  · repeat' (first | with_reducible exact HT.out | with_reducible refine Below.drew ?_ | refine Below.setCell ?_ (by simp <;> omega) _)
set_option maxRecDepth 100000 in
set_option maxHeartbeats 1000000 in
theorem drawWideText (w : World) (v : Value) (n : Nat) (hb : Bytes w v n) :
    Calls Try.prog 28 #[v] w fun e w' => WideOut e ∧ Below w.heap.size w w' := by
  go_enter Try.func28, Try.ntmps28
  go_wp2_with fail
  have hb1 : Bytes (w.alloc (.cells #[.bool false, .int .u64 0, .int .u64 0] 30)) v n := hb.mono ((Below.refl _ _).alloc (Nat.le_refl _) _)
  have hsz : (w.alloc (.cells #[.bool false, .int .u64 0, .int .u64 0] 30)).heap.size = w.heap.size + 1 := by simp
  refine (l1New (w.alloc (.cells #[.bool false, .int .u64 0, .int .u64 0] 30)) v n hb1).mono ?_
  rintro e w1 ⟨rfl, hc1, _⟩
  rw [hsz] at hc1
  clear hb1
  go_wp2_with fail
  refine (l3Wide (w.alloc (.cells #[.bool false, .int .u64 0, .int .u64 0] 30)) _ _ hc1).mono ?_
  rintro e w2 ⟨⟨n0, h0, l0, hh, hl, rfl⟩, hc2⟩
  have hXr := box_kept (cur_below hc2)
  have HT := Lib.hid (box_below (cur_below hc2))
  have hcr0 : w2.cell? ⟨w.heap.size, 0, none⟩ = some (.bool false) := cell_blk hXr 0
  have hfr0 := free_blk hXr 0
  have hcr1 : w2.cell? ⟨w.heap.size, 1, none⟩ = some (.int .u64 0) := cell_blk hXr 1
  have hfr1 := free_blk hXr 1
  have hcr2 : w2.cell? ⟨w.heap.size, 2, none⟩ = some (.int .u64 0) := cell_blk hXr 2
  have hfr2 := free_blk hXr 2
  go_wp2_with fail
  (try simp only [Exit.inBlock, Exit.then])
  refine bodyPost_ret (v := .agg #[.bool n0, .int .u64 h0, .int .u64 l0]) ?_ rfl ⟨⟨n0, h0, l0, hh, hl, rfl⟩, ?_⟩
  · rw [results_cell rfl]
    go_simp
  · repeat' (first | with_reducible exact HT.out | refine Below.setCell ?_ (by simp <;> omega) _)
end Go.Proofs.Ytjmlpeapbealfaa
