
/-
  The program adds fractions as the reference does.
-/
import Derived.Test.YtapdocfifgnjgaaLawF5
import Derived.Test.YtapdocfifgnjgaaFracT0
namespace Go.Proofs.Ytapdocfifgnjgaa
open Go.RowKit

theorem addFE_shape (n0 : Bool) (h0 l0 d0 : Int) (n1 : Bool) (h1 l1 d1 : Int) : ∃ (n : Bool) (h l k : Int) (b : Bool), addFE n0 h0 l0 d0 n1 h1 l1 d1 = .returned (.tuple #[.agg #[.bool n, .int .u64 h, .int .u64 l, .int .i64 k], .bool b]) := by
  rw [addFE]
  split
  · exact ⟨_, _, _, _, _, rfl⟩
  · exact ⟨false, 0, 0, 0, false, rfl⟩
set_option maxRecDepth 100000 in
set_option maxHeartbeats 8000000 in
theorem lawExAddFrac (n0 : Bool) (h0 l0 d0 : Int) (n1 : Bool) (h1 l1 d1 : Int) (hp0 : 0 ≤ h0) (hq0 : h0 < 18446744073709551616) (lp0 : 0 ≤ l0) (lq0 : l0 < 18446744073709551616) (dp0 : -9223372036854775808 ≤ d0) (dq0 : d0 ≤ 9223372036854775807) (hp1 : 0 ≤ h1) (hq1 : h1 < 18446744073709551616) (lp1 : 0 ≤ l1) (lq1 : l1 < 18446744073709551616) (dp1 : -9223372036854775808 ≤ d1) (dq1 : d1 ≤ 9223372036854775807) (w : World) :
    Calls Try.prog 6 #[.agg #[.bool n0, .int .u64 h0, .int .u64 l0, .int .i64 d0], .agg #[.bool n1, .int .u64 h1, .int .u64 l1, .int .i64 d1]] w fun e w' => e = .returned (.bool true) ∧ Below w.heap.size w w' := by
  obtain ⟨n, h, l, k, b, hE⟩ := addFE_shape n0 h0 l0 d0 n1 h1 l1 d1
  have HE := Lib.hid hE
  clear hE
  go_enter Try.func6, Try.ntmps6
  go_wp2_with fail
  obtain ⟨hA, hB, hBB, _⟩ := box2 (w := w) (a := #[.bool n0, .int .u64 h0, .int .u64 l0, .int .i64 d0]) (b := #[.bool n1, .int .u64 h1, .int .u64 l1, .int .i64 d1]) (T := 39) (U := 39) (Below.refl _ _)
  have HT := Lib.hid hBB
  clear hBB
  generalize ((w.alloc (.cells #[.bool n0, .int .u64 h0, .int .u64 l0, .int .i64 d0] 39)).alloc (.cells #[.bool n1, .int .u64 h1, .int .u64 l1, .int .i64 d1] 39)) = wq at hA hB HT ⊢
  have hDD : wq.drew.cell? ⟨w.heap.size, 0, none⟩ = some (.bool n0) ∧ wq.drew.cell? ⟨w.heap.size, 1, none⟩ = some (.int .u64 h0) ∧ wq.drew.cell? ⟨w.heap.size, 2, none⟩ = some (.int .u64 l0) ∧ wq.drew.cell? ⟨w.heap.size, 3, none⟩ = some (.int .i64 d0) ∧ wq.drew.cell? ⟨w.heap.size + 1, 0, none⟩ = some (.bool n1) ∧ wq.drew.cell? ⟨w.heap.size + 1, 1, none⟩ = some (.int .u64 h1) ∧ wq.drew.cell? ⟨w.heap.size + 1, 2, none⟩ = some (.int .u64 l1) ∧ wq.drew.cell? ⟨w.heap.size + 1, 3, none⟩ = some (.int .i64 d1) := ⟨cell_blk (w := wq) hA 0, cell_blk (w := wq) hA 1, cell_blk (w := wq) hA 2, cell_blk (w := wq) hA 3, cell_blk (w := wq) hB 0, cell_blk (w := wq) hB 1, cell_blk (w := wq) hB 2, cell_blk (w := wq) hB 3⟩
  refine wp_region_noPanic ?_
  refine wp_region_held_drew (S := (fun w' => w'.cell? ⟨w.heap.size, 0, none⟩ = some (.bool n0) ∧ w'.cell? ⟨w.heap.size, 1, none⟩ = some (.int .u64 h0) ∧ w'.cell? ⟨w.heap.size, 2, none⟩ = some (.int .u64 l0) ∧ w'.cell? ⟨w.heap.size, 3, none⟩ = some (.int .i64 d0) ∧ w'.cell? ⟨w.heap.size + 1, 0, none⟩ = some (.bool n1) ∧ w'.cell? ⟨w.heap.size + 1, 1, none⟩ = some (.int .u64 h1) ∧ w'.cell? ⟨w.heap.size + 1, 2, none⟩ = some (.int .u64 l1) ∧ w'.cell? ⟨w.heap.size + 1, 3, none⟩ = some (.int .i64 d1))) (by kernel_rfl) hDD (fun hHeld => ?_)
  clear hDD
  replace hA : wq.drew.heap[w.heap.size]? = _ := hA
  replace hB : wq.drew.heap[w.heap.size + 1]? = _ := hB
  replace HT : Hid (Below w.heap.size w wq.drew) := Lib.hid (Below.drew HT.out)
  generalize wq.drew = wd1 at hA hB HT hHeld ⊢
  refine wpAnyH_take (i := 0) (oi := ?o1) (v := ?v1) ?hi1 ?hs1 ?hf1 ?hr1 ?hQ1 ?hy1 ?hS1 ?rest1
  case hi1 => rfl
  case hs1 => kernel_rfl
  case hf1 => kernel_rfl
  case hr1 => kernel_rfl
  case hQ1 => exact fun _ _ _ h => h
  case hS1 => assumption
  case hy1 =>
    refine Or.inl ⟨by kernel_rfl, ?_⟩
    intro w' hSw
    (try dsimp only at hSw)
    go_simp
    (try rfl)
  (try simp only [List.getElem_toArray, List.getElem_cons_zero, Act.put, List.setIfInBounds_toArray, List.set_cons_zero, List.set_cons_succ])
  refine wpAnyH_take (i := 2) (oi := ?o2) (v := ?v2) ?hi2 ?hs2 ?hf2 ?hr2 ?hQ2 ?hy2 ?hS2 ?rest2
  case hi2 => rfl
  case hs2 => kernel_rfl
  case hf2 => kernel_rfl
  case hr2 => kernel_rfl
  case hQ2 => exact fun _ _ _ h => h
  case hS2 => assumption
  case hy2 =>
    refine Or.inl ⟨by kernel_rfl, ?_⟩
    intro w' hSw
    (try dsimp only at hSw)
    go_simp
    (try rfl)
  (try simp only [List.getElem_toArray, List.getElem_cons_succ, List.getElem_cons_zero, Act.put, List.setIfInBounds_toArray, List.set_cons_zero, List.set_cons_succ])
  refine wpAnyH_ready (rs := [1, 8]) (by kernel_rfl) (by simp) ?_
  refine AllReadyH.cons rfl (fun K hK => ?_) (AllReadyH.cons rfl (fun K hK => ?_) AllReadyH.nil)
  · skip
    go_simp
    refine (toFrac n0 h0 l0 d0 _).mono ?_
    rintro e wc2 ⟨rfl, hBc⟩
    replace hA := box_still hA hBc
    replace hB := box_still hB hBc
    replace HT := Lib.hid (bt2 HT.out hBc)
    clear hBc
    refine hK.out _ _ ?_ (fun hHeld => ?_)
    · exact ⟨cell_blk hA 0, cell_blk hA 1, cell_blk hA 2, cell_blk hA 3, cell_blk hB 0, cell_blk hB 1, cell_blk hB 2, cell_blk hB 3⟩
    clear hK K
    (try simp only [List.getElem_toArray, List.getElem_cons_succ, List.getElem_cons_zero, Act.put, List.setIfInBounds_toArray, List.set_cons_zero, List.set_cons_succ])
    refine wpAnyH_ready (rs := [3, 8]) (by kernel_rfl) (by simp) ?_
    refine AllReadyH.cons rfl (fun K hK => ?_) (AllReadyH.cons rfl (fun K hK => ?_) AllReadyH.nil)
    · skip
      go_simp
      refine (toFrac n1 h1 l1 d1 _).mono ?_
      rintro e wc3 ⟨rfl, hBc⟩
      replace hA := box_still hA hBc
      replace hB := box_still hB hBc
      replace HT := Lib.hid (bt2 HT.out hBc)
      clear hBc
      refine hK.out _ _ ?_ (fun hHeld => ?_)
      · exact ⟨cell_blk hA 0, cell_blk hA 1, cell_blk hA 2, cell_blk hA 3, cell_blk hB 0, cell_blk hB 1, cell_blk hB 2, cell_blk hB 3⟩
      clear hK K
      (try simp only [List.getElem_toArray, List.getElem_cons_succ, List.getElem_cons_zero, Act.put, List.setIfInBounds_toArray, List.set_cons_zero, List.set_cons_succ])
      refine wpAnyH_ready (rs := [4, 8]) (by kernel_rfl) (by simp) ?_
      refine AllReadyH.cons rfl (fun K hK => ?_) (AllReadyH.cons rfl (fun K hK => ?_) AllReadyH.nil)
      · skip
        go_simp
        refine (specAddFrac n0 h0 l0 d0 n1 h1 l1 d1 hp0 hq0 lp0 lq0 dp0 dq0 hp1 hq1 lp1 lq1 dp1 dq1 _).mono ?_
        rintro e wc4 ⟨rfl, hBc⟩
        rw [HE.out]
        replace hA := box_still hA hBc
        replace hB := box_still hB hBc
        replace HT := Lib.hid (bt2 HT.out hBc)
        clear hBc
        refine hK.out _ _ ?_ (fun hHeld => ?_)
        · exact ⟨cell_blk hA 0, cell_blk hA 1, cell_blk hA 2, cell_blk hA 3, cell_blk hB 0, cell_blk hB 1, cell_blk hB 2, cell_blk hB 3⟩
        clear hK K
        (try simp only [List.getElem_toArray, List.getElem_cons_succ, List.getElem_cons_zero, Act.put, List.setIfInBounds_toArray, List.set_cons_zero, List.set_cons_succ])
        refine wpAnyH_take (i := 5) (oi := ?o3) (v := ?v3) ?hi3 ?hs3 ?hf3 ?hr3 ?hQ3 ?hy3 ?hS3 ?rest3
        case hi3 => rfl
        case hs3 => kernel_rfl
        case hf3 => kernel_rfl
        case hr3 => kernel_rfl
        case hQ3 => exact fun _ _ _ h => h
        case hS3 => assumption
        case hy3 =>
          refine Or.inl ⟨by kernel_rfl, ?_⟩
          intro w' hSw
          (try dsimp only at hSw)
          go_simp
          (try rfl)
        (try simp only [List.getElem_toArray, List.getElem_cons_succ, List.getElem_cons_zero, Act.put, List.setIfInBounds_toArray, List.set_cons_zero, List.set_cons_succ])
        refine wpAnyH_take (i := 6) (oi := ?o4) (v := ?v4) ?hi4 ?hs4 ?hf4 ?hr4 ?hQ4 ?hy4 ?hS4 ?rest4
        case hi4 => rfl
        case hs4 => kernel_rfl
        case hf4 => kernel_rfl
        case hr4 => kernel_rfl
        case hQ4 => exact fun _ _ _ h => h
        case hS4 => assumption
        case hy4 =>
          refine Or.inl ⟨by kernel_rfl, ?_⟩
          intro w' hSw
          (try dsimp only at hSw)
          go_simp
          (try rfl)
        (try simp only [List.getElem_toArray, List.getElem_cons_succ, List.getElem_cons_zero, Act.put, List.setIfInBounds_toArray, List.set_cons_zero, List.set_cons_succ])
        refine wpAnyH_take (i := 7) (oi := ?o5) (v := ?v5) ?hi5 ?hs5 ?hf5 ?hr5 ?hQ5 ?hy5 ?hS5 ?rest5
        case hi5 => rfl
        case hs5 => kernel_rfl
        case hf5 => kernel_rfl
        case hr5 => kernel_rfl
        case hQ5 => exact fun _ _ _ h => h
        case hS5 => assumption
        case hy5 =>
          refine Or.inl ⟨by kernel_rfl, ?_⟩
          intro w' hSw
          (try dsimp only at hSw)
          go_simp
          (try rfl)
        (try simp only [List.getElem_toArray, List.getElem_cons_succ, List.getElem_cons_zero, Act.put, List.setIfInBounds_toArray, List.set_cons_zero, List.set_cons_succ])
        refine wpAnyH_ready (rs := [8]) (by kernel_rfl) (by simp) ?_
        refine AllReadyH.cons rfl (fun K hK => ?_) AllReadyH.nil
        go_simp
        have hN := box_new wc4 (.cells #[.bool false, .int .u64 0, .int .u64 0, .int .i64 0] 28)
        have hn1 : w.heap.size + 1 < wc4.heap.size := blkF hB
        replace hA := blkAl hA (.cells #[.bool false, .int .u64 0, .int .u64 0, .int .i64 0] 28)
        replace hB := blkAl hB (.cells #[.bool false, .int .u64 0, .int .u64 0, .int .i64 0] 28)
        replace HT := Lib.hid (HT.out.alloc HT.out.size (.cells #[.bool false, .int .u64 0, .int .u64 0, .int .i64 0] 28))
        refine hK.out _ _ ?_ (fun hHeld => ?_)
        · exact ⟨cell_blk hA 0, cell_blk hA 1, cell_blk hA 2, cell_blk hA 3, cell_blk hB 0, cell_blk hB 1, cell_blk hB 2, cell_blk hB 3⟩
        clear hK K
        (try simp only [List.getElem_toArray, List.getElem_cons_succ, List.getElem_cons_zero, Act.put, List.setIfInBounds_toArray, List.set_cons_zero, List.set_cons_succ])
        generalize (wc4.alloc (.cells #[.bool false, .int .u64 0, .int .u64 0, .int .i64 0] 28)) = wa5 at hA hB hN HT hHeld ⊢
        generalize wc4.heap.size = X1 at hN hn1 ⊢
        have cN0 : wa5.cell? ⟨X1, 0, none⟩ = some (.bool false) := cell_blk hN 0
        have cN1 : wa5.cell? ⟨X1, 1, none⟩ = some (.int .u64 0) := cell_blk hN 1
        have cN2 : wa5.cell? ⟨X1, 2, none⟩ = some (.int .u64 0) := cell_blk hN 2
        have cN3 : wa5.cell? ⟨X1, 3, none⟩ = some (.int .i64 0) := cell_blk hN 3
        have fN := free_blk hN
        have lN := blkF hN
        refine wpAnyH_ready (rs := [9]) (by kernel_rfl) (by simp) ?_
        refine AllReadyH.cons rfl (fun K hK => ?_) AllReadyH.nil
        go_simp
        replace hA := (st4_blk_farF (.bool n) (.int .u64 h) (.int .u64 l) (.int .i64 k) (show X1 ≠ w.heap.size by omega)).trans hA
        replace hB := (st4_blk_farF (.bool n) (.int .u64 h) (.int .u64 l) (.int .i64 k) (show X1 ≠ w.heap.size + 1 by omega)).trans hB
        have hM := st4_blkF (b0 := .bool n) (b1 := .int .u64 h) (b2 := .int .u64 l) (b3 := .int .i64 k) hN
        replace HT := Lib.hid (st4_belowF (X := X1) HT.out (by omega) (.bool n) (.int .u64 h) (.int .u64 l) (.int .i64 k))
        clear hN cN0 cN1 cN2 cN3 fN lN
        refine hK.out _ _ ?_ (fun hHeld => ?_)
        · exact ⟨cell_blk hA 0, cell_blk hA 1, cell_blk hA 2, cell_blk hA 3, cell_blk hB 0, cell_blk hB 1, cell_blk hB 2, cell_blk hB 3⟩
        clear hK K
        (try simp only [List.getElem_toArray, List.getElem_cons_succ, List.getElem_cons_zero, Act.put, List.setIfInBounds_toArray, List.set_cons_zero, List.set_cons_succ])
        generalize ((((wa5.setCell ⟨X1, 0, none⟩ (.bool n)).setCell ⟨X1, 1, none⟩ (.int .u64 h)).setCell ⟨X1, 2, none⟩ (.int .u64 l)).setCell ⟨X1, 3, none⟩ (.int .i64 k)) = ws6 at hA hB hM HT hHeld ⊢
        refine wpAnyH_take (i := 10) (oi := ?o6) (v := ?v6) ?hi6 ?hs6 ?hf6 ?hr6 ?hQ6 ?hy6 ?hS6 ?rest6
        case hi6 => rfl
        case hs6 => kernel_rfl
        case hf6 => kernel_rfl
        case hr6 => kernel_rfl
        case hQ6 => exact fun _ _ _ h => h
        case hS6 => assumption
        case hy6 =>
          refine Or.inl ⟨by kernel_rfl, ?_⟩
          intro w' hSw
          (try dsimp only at hSw)
          go_simp
          (try rfl)
        (try simp only [List.getElem_toArray, List.getElem_cons_succ, List.getElem_cons_zero, Act.put, List.setIfInBounds_toArray, List.set_cons_zero, List.set_cons_succ])
        refine wpAnyH_done (by kernel_rfl) ?_ _
        refine NoPanic.normal ?_
        have hX := hM
        clear hM
        go_wp2_with fail
        have hDD : ws6.drew.cell? ⟨w.heap.size, 0, none⟩ = some (.bool n0) ∧ ws6.drew.cell? ⟨w.heap.size, 1, none⟩ = some (.int .u64 h0) ∧ ws6.drew.cell? ⟨w.heap.size, 2, none⟩ = some (.int .u64 l0) ∧ ws6.drew.cell? ⟨w.heap.size, 3, none⟩ = some (.int .i64 d0) ∧ ws6.drew.cell? ⟨w.heap.size + 1, 0, none⟩ = some (.bool n1) ∧ ws6.drew.cell? ⟨w.heap.size + 1, 1, none⟩ = some (.int .u64 h1) ∧ ws6.drew.cell? ⟨w.heap.size + 1, 2, none⟩ = some (.int .u64 l1) ∧ ws6.drew.cell? ⟨w.heap.size + 1, 3, none⟩ = some (.int .i64 d1) := ⟨cell_blk (w := ws6) hA 0, cell_blk (w := ws6) hA 1, cell_blk (w := ws6) hA 2, cell_blk (w := ws6) hA 3, cell_blk (w := ws6) hB 0, cell_blk (w := ws6) hB 1, cell_blk (w := ws6) hB 2, cell_blk (w := ws6) hB 3⟩
        refine wp_region_noPanic ?_
        refine wp_region_held_drew (S := (fun w' => w'.cell? ⟨w.heap.size, 0, none⟩ = some (.bool n0) ∧ w'.cell? ⟨w.heap.size, 1, none⟩ = some (.int .u64 h0) ∧ w'.cell? ⟨w.heap.size, 2, none⟩ = some (.int .u64 l0) ∧ w'.cell? ⟨w.heap.size, 3, none⟩ = some (.int .i64 d0) ∧ w'.cell? ⟨w.heap.size + 1, 0, none⟩ = some (.bool n1) ∧ w'.cell? ⟨w.heap.size + 1, 1, none⟩ = some (.int .u64 h1) ∧ w'.cell? ⟨w.heap.size + 1, 2, none⟩ = some (.int .u64 l1) ∧ w'.cell? ⟨w.heap.size + 1, 3, none⟩ = some (.int .i64 d1))) (by kernel_rfl) hDD (fun hHeld => ?_)
        clear hDD
        replace hA : ws6.drew.heap[w.heap.size]? = _ := hA
        replace hB : ws6.drew.heap[w.heap.size + 1]? = _ := hB
        replace hX : ws6.drew.heap[X1]? = _ := hX
        replace HT : Hid (Below w.heap.size w ws6.drew) := Lib.hid (Below.drew HT.out)
        generalize ws6.drew = wd7 at hA hB hX HT hHeld ⊢
        refine wpAnyH_take (i := 0) (oi := ?o7) (v := ?v7) ?hi7 ?hs7 ?hf7 ?hr7 ?hQ7 ?hy7 ?hS7 ?rest7
        case hi7 => rfl
        case hs7 => kernel_rfl
        case hf7 => kernel_rfl
        case hr7 => kernel_rfl
        case hQ7 => exact fun _ _ _ h => h
        case hS7 => assumption
        case hy7 =>
          refine Or.inl ⟨by kernel_rfl, ?_⟩
          intro w' hSw
          (try dsimp only at hSw)
          go_simp
          (try rfl)
        (try simp only [List.getElem_toArray, List.getElem_cons_zero, Act.put, List.setIfInBounds_toArray, List.set_cons_zero, List.set_cons_succ])
        refine wpAnyH_take (i := 2) (oi := ?o8) (v := ?v8) ?hi8 ?hs8 ?hf8 ?hr8 ?hQ8 ?hy8 ?hS8 ?rest8
        case hi8 => rfl
        case hs8 => kernel_rfl
        case hf8 => kernel_rfl
        case hr8 => kernel_rfl
        case hQ8 => exact fun _ _ _ h => h
        case hS8 => assumption
        case hy8 =>
          refine Or.inl ⟨by kernel_rfl, ?_⟩
          intro w' hSw
          (try dsimp only at hSw)
          go_simp
          (try rfl)
        (try simp only [List.getElem_toArray, List.getElem_cons_succ, List.getElem_cons_zero, Act.put, List.setIfInBounds_toArray, List.set_cons_zero, List.set_cons_succ])
        refine wpAnyH_ready (rs := [1, 8]) (by kernel_rfl) (by simp) ?_
        refine AllReadyH.cons rfl (fun K hK => ?_) (AllReadyH.cons rfl (fun K hK => ?_) AllReadyH.nil)
        · skip
          go_simp
          refine (toFrac n0 h0 l0 d0 _).mono ?_
          rintro e wc8 ⟨rfl, hBc⟩
          replace hA := box_still hA hBc
          replace hB := box_still hB hBc
          replace hX := box_still hX hBc
          replace HT := Lib.hid (bt2 HT.out hBc)
          clear hBc
          refine hK.out _ _ ?_ (fun hHeld => ?_)
          · exact ⟨cell_blk hA 0, cell_blk hA 1, cell_blk hA 2, cell_blk hA 3, cell_blk hB 0, cell_blk hB 1, cell_blk hB 2, cell_blk hB 3⟩
          clear hK K
          (try simp only [List.getElem_toArray, List.getElem_cons_succ, List.getElem_cons_zero, Act.put, List.setIfInBounds_toArray, List.set_cons_zero, List.set_cons_succ])
          refine wpAnyH_ready (rs := [3, 8]) (by kernel_rfl) (by simp) ?_
          refine AllReadyH.cons rfl (fun K hK => ?_) (AllReadyH.cons rfl (fun K hK => ?_) AllReadyH.nil)
          · skip
            go_simp
            refine (toFrac n1 h1 l1 d1 _).mono ?_
            rintro e wc9 ⟨rfl, hBc⟩
            replace hA := box_still hA hBc
            replace hB := box_still hB hBc
            replace hX := box_still hX hBc
            replace HT := Lib.hid (bt2 HT.out hBc)
            clear hBc
            refine hK.out _ _ ?_ (fun hHeld => ?_)
            · exact ⟨cell_blk hA 0, cell_blk hA 1, cell_blk hA 2, cell_blk hA 3, cell_blk hB 0, cell_blk hB 1, cell_blk hB 2, cell_blk hB 3⟩
            clear hK K
            (try simp only [List.getElem_toArray, List.getElem_cons_succ, List.getElem_cons_zero, Act.put, List.setIfInBounds_toArray, List.set_cons_zero, List.set_cons_succ])
            refine wpAnyH_ready (rs := [4, 8]) (by kernel_rfl) (by simp) ?_
            refine AllReadyH.cons rfl (fun K hK => ?_) (AllReadyH.cons rfl (fun K hK => ?_) AllReadyH.nil)
            · skip
              go_simp
              refine (implAddFrac n0 h0 l0 d0 n1 h1 l1 d1 hp0 hq0 lp0 lq0 dp0 dq0 hp1 hq1 lp1 lq1 dp1 dq1 _).mono ?_
              rintro e wc10 ⟨rfl, hBc⟩
              rw [HE.out]
              replace hA := box_still hA hBc
              replace hB := box_still hB hBc
              replace hX := box_still hX hBc
              replace HT := Lib.hid (bt2 HT.out hBc)
              clear hBc
              refine hK.out _ _ ?_ (fun hHeld => ?_)
              · exact ⟨cell_blk hA 0, cell_blk hA 1, cell_blk hA 2, cell_blk hA 3, cell_blk hB 0, cell_blk hB 1, cell_blk hB 2, cell_blk hB 3⟩
              clear hK K
              (try simp only [List.getElem_toArray, List.getElem_cons_succ, List.getElem_cons_zero, Act.put, List.setIfInBounds_toArray, List.set_cons_zero, List.set_cons_succ])
              refine wpAnyH_take (i := 5) (oi := ?o9) (v := ?v9) ?hi9 ?hs9 ?hf9 ?hr9 ?hQ9 ?hy9 ?hS9 ?rest9
              case hi9 => rfl
              case hs9 => kernel_rfl
              case hf9 => kernel_rfl
              case hr9 => kernel_rfl
              case hQ9 => exact fun _ _ _ h => h
              case hS9 => assumption
              case hy9 =>
                refine Or.inl ⟨by kernel_rfl, ?_⟩
                intro w' hSw
                (try dsimp only at hSw)
                go_simp
                (try rfl)
              (try simp only [List.getElem_toArray, List.getElem_cons_succ, List.getElem_cons_zero, Act.put, List.setIfInBounds_toArray, List.set_cons_zero, List.set_cons_succ])
              refine wpAnyH_take (i := 6) (oi := ?o10) (v := ?v10) ?hi10 ?hs10 ?hf10 ?hr10 ?hQ10 ?hy10 ?hS10 ?rest10
              case hi10 => rfl
              case hs10 => kernel_rfl
              case hf10 => kernel_rfl
              case hr10 => kernel_rfl
              case hQ10 => exact fun _ _ _ h => h
              case hS10 => assumption
              case hy10 =>
                refine Or.inl ⟨by kernel_rfl, ?_⟩
                intro w' hSw
                (try dsimp only at hSw)
                go_simp
                (try rfl)
              (try simp only [List.getElem_toArray, List.getElem_cons_succ, List.getElem_cons_zero, Act.put, List.setIfInBounds_toArray, List.set_cons_zero, List.set_cons_succ])
              refine wpAnyH_take (i := 7) (oi := ?o11) (v := ?v11) ?hi11 ?hs11 ?hf11 ?hr11 ?hQ11 ?hy11 ?hS11 ?rest11
              case hi11 => rfl
              case hs11 => kernel_rfl
              case hf11 => kernel_rfl
              case hr11 => kernel_rfl
              case hQ11 => exact fun _ _ _ h => h
              case hS11 => assumption
              case hy11 =>
                refine Or.inl ⟨by kernel_rfl, ?_⟩
                intro w' hSw
                (try dsimp only at hSw)
                go_simp
                (try rfl)
              (try simp only [List.getElem_toArray, List.getElem_cons_succ, List.getElem_cons_zero, Act.put, List.setIfInBounds_toArray, List.set_cons_zero, List.set_cons_succ])
              refine wpAnyH_ready (rs := [8]) (by kernel_rfl) (by simp) ?_
              refine AllReadyH.cons rfl (fun K hK => ?_) AllReadyH.nil
              go_simp
              have hN := box_new wc10 (.cells #[.bool false, .int .u64 0, .int .u64 0, .int .i64 0] 28)
              have hn1 : w.heap.size + 1 < wc10.heap.size := blkF hB
              have hn2 : X1 < wc10.heap.size := blkF hX
              replace hA := blkAl hA (.cells #[.bool false, .int .u64 0, .int .u64 0, .int .i64 0] 28)
              replace hB := blkAl hB (.cells #[.bool false, .int .u64 0, .int .u64 0, .int .i64 0] 28)
              replace hX := blkAl hX (.cells #[.bool false, .int .u64 0, .int .u64 0, .int .i64 0] 28)
              replace HT := Lib.hid (HT.out.alloc HT.out.size (.cells #[.bool false, .int .u64 0, .int .u64 0, .int .i64 0] 28))
              refine hK.out _ _ ?_ (fun hHeld => ?_)
              · exact ⟨cell_blk hA 0, cell_blk hA 1, cell_blk hA 2, cell_blk hA 3, cell_blk hB 0, cell_blk hB 1, cell_blk hB 2, cell_blk hB 3⟩
              clear hK K
              (try simp only [List.getElem_toArray, List.getElem_cons_succ, List.getElem_cons_zero, Act.put, List.setIfInBounds_toArray, List.set_cons_zero, List.set_cons_succ])
              generalize (wc10.alloc (.cells #[.bool false, .int .u64 0, .int .u64 0, .int .i64 0] 28)) = wa11 at hA hB hX hN HT hHeld ⊢
              generalize wc10.heap.size = X2 at hN hn1 hn2 ⊢
              have cN0 : wa11.cell? ⟨X2, 0, none⟩ = some (.bool false) := cell_blk hN 0
              have cN1 : wa11.cell? ⟨X2, 1, none⟩ = some (.int .u64 0) := cell_blk hN 1
              have cN2 : wa11.cell? ⟨X2, 2, none⟩ = some (.int .u64 0) := cell_blk hN 2
              have cN3 : wa11.cell? ⟨X2, 3, none⟩ = some (.int .i64 0) := cell_blk hN 3
              have fN := free_blk hN
              have lN := blkF hN
              refine wpAnyH_ready (rs := [9]) (by kernel_rfl) (by simp) ?_
              refine AllReadyH.cons rfl (fun K hK => ?_) AllReadyH.nil
              go_simp
              replace hA := (st4_blk_farF (.bool n) (.int .u64 h) (.int .u64 l) (.int .i64 k) (show X2 ≠ w.heap.size by omega)).trans hA
              replace hB := (st4_blk_farF (.bool n) (.int .u64 h) (.int .u64 l) (.int .i64 k) (show X2 ≠ w.heap.size + 1 by omega)).trans hB
              replace hX := (st4_blk_farF (.bool n) (.int .u64 h) (.int .u64 l) (.int .i64 k) (show X2 ≠ X1 by omega)).trans hX
              have hM := st4_blkF (b0 := .bool n) (b1 := .int .u64 h) (b2 := .int .u64 l) (b3 := .int .i64 k) hN
              replace HT := Lib.hid (st4_belowF (X := X2) HT.out (by omega) (.bool n) (.int .u64 h) (.int .u64 l) (.int .i64 k))
              clear hN cN0 cN1 cN2 cN3 fN lN
              refine hK.out _ _ ?_ (fun hHeld => ?_)
              · exact ⟨cell_blk hA 0, cell_blk hA 1, cell_blk hA 2, cell_blk hA 3, cell_blk hB 0, cell_blk hB 1, cell_blk hB 2, cell_blk hB 3⟩
              clear hK K
              (try simp only [List.getElem_toArray, List.getElem_cons_succ, List.getElem_cons_zero, Act.put, List.setIfInBounds_toArray, List.set_cons_zero, List.set_cons_succ])
              generalize ((((wa11.setCell ⟨X2, 0, none⟩ (.bool n)).setCell ⟨X2, 1, none⟩ (.int .u64 h)).setCell ⟨X2, 2, none⟩ (.int .u64 l)).setCell ⟨X2, 3, none⟩ (.int .i64 k)) = ws12 at hA hB hX hM HT hHeld ⊢
              refine wpAnyH_take (i := 10) (oi := ?o12) (v := ?v12) ?hi12 ?hs12 ?hf12 ?hr12 ?hQ12 ?hy12 ?hS12 ?rest12
              case hi12 => rfl
              case hs12 => kernel_rfl
              case hf12 => kernel_rfl
              case hr12 => kernel_rfl
              case hQ12 => exact fun _ _ _ h => h
              case hS12 => assumption
              case hy12 =>
                refine Or.inl ⟨by kernel_rfl, ?_⟩
                intro w' hSw
                (try dsimp only at hSw)
                go_simp
                (try rfl)
              (try simp only [List.getElem_toArray, List.getElem_cons_succ, List.getElem_cons_zero, Act.put, List.setIfInBounds_toArray, List.set_cons_zero, List.set_cons_succ])
              refine wpAnyH_done (by kernel_rfl) ?_ _
              refine NoPanic.normal ?_
              have hx1 := blkF hX
              have hx2 := blkF hM
              have cX0 : ws12.cell? ⟨X1, 0, none⟩ = some (.bool n) := cell_blk hX 0
              have cX1 : ws12.cell? ⟨X1, 1, none⟩ = some (.int .u64 h) := cell_blk hX 1
              have cX2 : ws12.cell? ⟨X1, 2, none⟩ = some (.int .u64 l) := cell_blk hX 2
              have cX3 : ws12.cell? ⟨X1, 3, none⟩ = some (.int .i64 k) := cell_blk hX 3
              have cM0 : ws12.cell? ⟨X2, 0, none⟩ = some (.bool n) := cell_blk hM 0
              have cM1 : ws12.cell? ⟨X2, 1, none⟩ = some (.int .u64 h) := cell_blk hM 1
              have cM2 : ws12.cell? ⟨X2, 2, none⟩ = some (.int .u64 l) := cell_blk hM 2
              have cM3 : ws12.cell? ⟨X2, 3, none⟩ = some (.int .i64 k) := cell_blk hM 3
              go_wp2_with fail
              refine (eqFrac_same n h l k _).mono ?_
              rintro e w9 ⟨rfl, hB9⟩
              replace HT := Lib.hid (bt2 HT.out hB9)
              clear hB9
              go_wp2_with fail
              all_goals first
                | (go_ret; exact ⟨rfl, HT.out⟩)
                | (exfalso; simp_all; done)
            · skip
              go_simp
              have hN := box_new wc9 (.cells #[.bool false, .int .u64 0, .int .u64 0, .int .i64 0] 28)
              have hn1 : w.heap.size + 1 < wc9.heap.size := blkF hB
              have hn2 : X1 < wc9.heap.size := blkF hX
              replace hA := blkAl hA (.cells #[.bool false, .int .u64 0, .int .u64 0, .int .i64 0] 28)
              replace hB := blkAl hB (.cells #[.bool false, .int .u64 0, .int .u64 0, .int .i64 0] 28)
              replace hX := blkAl hX (.cells #[.bool false, .int .u64 0, .int .u64 0, .int .i64 0] 28)
              replace HT := Lib.hid (HT.out.alloc HT.out.size (.cells #[.bool false, .int .u64 0, .int .u64 0, .int .i64 0] 28))
              refine hK.out _ _ ?_ (fun hHeld => ?_)
              · exact ⟨cell_blk hA 0, cell_blk hA 1, cell_blk hA 2, cell_blk hA 3, cell_blk hB 0, cell_blk hB 1, cell_blk hB 2, cell_blk hB 3⟩
              clear hK K
              (try simp only [List.getElem_toArray, List.getElem_cons_succ, List.getElem_cons_zero, Act.put, List.setIfInBounds_toArray, List.set_cons_zero, List.set_cons_succ])
              generalize (wc9.alloc (.cells #[.bool false, .int .u64 0, .int .u64 0, .int .i64 0] 28)) = wa13 at hA hB hX hN HT hHeld ⊢
              generalize wc9.heap.size = X2 at hN hn1 hn2 ⊢
              refine wpAnyH_ready (rs := [4]) (by kernel_rfl) (by simp) ?_
              refine AllReadyH.cons rfl (fun K hK => ?_) AllReadyH.nil
              go_simp
              refine (implAddFrac n0 h0 l0 d0 n1 h1 l1 d1 hp0 hq0 lp0 lq0 dp0 dq0 hp1 hq1 lp1 lq1 dp1 dq1 _).mono ?_
              rintro e wc14 ⟨rfl, hBc⟩
              rw [HE.out]
              replace hA := box_still hA hBc
              replace hB := box_still hB hBc
              replace hX := box_still hX hBc
              replace hN := box_still hN hBc
              replace HT := Lib.hid (bt2 HT.out hBc)
              clear hBc
              refine hK.out _ _ ?_ (fun hHeld => ?_)
              · exact ⟨cell_blk hA 0, cell_blk hA 1, cell_blk hA 2, cell_blk hA 3, cell_blk hB 0, cell_blk hB 1, cell_blk hB 2, cell_blk hB 3⟩
              clear hK K
              (try simp only [List.getElem_toArray, List.getElem_cons_succ, List.getElem_cons_zero, Act.put, List.setIfInBounds_toArray, List.set_cons_zero, List.set_cons_succ])
              refine wpAnyH_take (i := 5) (oi := ?o13) (v := ?v13) ?hi13 ?hs13 ?hf13 ?hr13 ?hQ13 ?hy13 ?hS13 ?rest13
              case hi13 => rfl
              case hs13 => kernel_rfl
              case hf13 => kernel_rfl
              case hr13 => kernel_rfl
              case hQ13 => exact fun _ _ _ h => h
              case hS13 => assumption
              case hy13 =>
                refine Or.inl ⟨by kernel_rfl, ?_⟩
                intro w' hSw
                (try dsimp only at hSw)
                go_simp
                (try rfl)
              (try simp only [List.getElem_toArray, List.getElem_cons_succ, List.getElem_cons_zero, Act.put, List.setIfInBounds_toArray, List.set_cons_zero, List.set_cons_succ])
              refine wpAnyH_take (i := 6) (oi := ?o14) (v := ?v14) ?hi14 ?hs14 ?hf14 ?hr14 ?hQ14 ?hy14 ?hS14 ?rest14
              case hi14 => rfl
              case hs14 => kernel_rfl
              case hf14 => kernel_rfl
              case hr14 => kernel_rfl
              case hQ14 => exact fun _ _ _ h => h
              case hS14 => assumption
              case hy14 =>
                refine Or.inl ⟨by kernel_rfl, ?_⟩
                intro w' hSw
                (try dsimp only at hSw)
                go_simp
                (try rfl)
              (try simp only [List.getElem_toArray, List.getElem_cons_succ, List.getElem_cons_zero, Act.put, List.setIfInBounds_toArray, List.set_cons_zero, List.set_cons_succ])
              refine wpAnyH_take (i := 7) (oi := ?o15) (v := ?v15) ?hi15 ?hs15 ?hf15 ?hr15 ?hQ15 ?hy15 ?hS15 ?rest15
              case hi15 => rfl
              case hs15 => kernel_rfl
              case hf15 => kernel_rfl
              case hr15 => kernel_rfl
              case hQ15 => exact fun _ _ _ h => h
              case hS15 => assumption
              case hy15 =>
                refine Or.inl ⟨by kernel_rfl, ?_⟩
                intro w' hSw
                (try dsimp only at hSw)
                go_simp
                (try rfl)
              (try simp only [List.getElem_toArray, List.getElem_cons_succ, List.getElem_cons_zero, Act.put, List.setIfInBounds_toArray, List.set_cons_zero, List.set_cons_succ])
              have cN0 : wc14.cell? ⟨X2, 0, none⟩ = some (.bool false) := cell_blk hN 0
              have cN1 : wc14.cell? ⟨X2, 1, none⟩ = some (.int .u64 0) := cell_blk hN 1
              have cN2 : wc14.cell? ⟨X2, 2, none⟩ = some (.int .u64 0) := cell_blk hN 2
              have cN3 : wc14.cell? ⟨X2, 3, none⟩ = some (.int .i64 0) := cell_blk hN 3
              have fN := free_blk hN
              have lN := blkF hN
              refine wpAnyH_ready (rs := [9]) (by kernel_rfl) (by simp) ?_
              refine AllReadyH.cons rfl (fun K hK => ?_) AllReadyH.nil
              go_simp
              replace hA := (st4_blk_farF (.bool n) (.int .u64 h) (.int .u64 l) (.int .i64 k) (show X2 ≠ w.heap.size by omega)).trans hA
              replace hB := (st4_blk_farF (.bool n) (.int .u64 h) (.int .u64 l) (.int .i64 k) (show X2 ≠ w.heap.size + 1 by omega)).trans hB
              replace hX := (st4_blk_farF (.bool n) (.int .u64 h) (.int .u64 l) (.int .i64 k) (show X2 ≠ X1 by omega)).trans hX
              have hM := st4_blkF (b0 := .bool n) (b1 := .int .u64 h) (b2 := .int .u64 l) (b3 := .int .i64 k) hN
              replace HT := Lib.hid (st4_belowF (X := X2) HT.out (by omega) (.bool n) (.int .u64 h) (.int .u64 l) (.int .i64 k))
              clear hN cN0 cN1 cN2 cN3 fN lN
              refine hK.out _ _ ?_ (fun hHeld => ?_)
              · exact ⟨cell_blk hA 0, cell_blk hA 1, cell_blk hA 2, cell_blk hA 3, cell_blk hB 0, cell_blk hB 1, cell_blk hB 2, cell_blk hB 3⟩
              clear hK K
              (try simp only [List.getElem_toArray, List.getElem_cons_succ, List.getElem_cons_zero, Act.put, List.setIfInBounds_toArray, List.set_cons_zero, List.set_cons_succ])
              generalize ((((wc14.setCell ⟨X2, 0, none⟩ (.bool n)).setCell ⟨X2, 1, none⟩ (.int .u64 h)).setCell ⟨X2, 2, none⟩ (.int .u64 l)).setCell ⟨X2, 3, none⟩ (.int .i64 k)) = ws15 at hA hB hX hM HT hHeld ⊢
              refine wpAnyH_take (i := 10) (oi := ?o16) (v := ?v16) ?hi16 ?hs16 ?hf16 ?hr16 ?hQ16 ?hy16 ?hS16 ?rest16
              case hi16 => rfl
              case hs16 => kernel_rfl
              case hf16 => kernel_rfl
              case hr16 => kernel_rfl
              case hQ16 => exact fun _ _ _ h => h
              case hS16 => assumption
              case hy16 =>
                refine Or.inl ⟨by kernel_rfl, ?_⟩
                intro w' hSw
                (try dsimp only at hSw)
                go_simp
                (try rfl)
              (try simp only [List.getElem_toArray, List.getElem_cons_succ, List.getElem_cons_zero, Act.put, List.setIfInBounds_toArray, List.set_cons_zero, List.set_cons_succ])
              refine wpAnyH_done (by kernel_rfl) ?_ _
              refine NoPanic.normal ?_
              have hx1 := blkF hX
              have hx2 := blkF hM
              have cX0 : ws15.cell? ⟨X1, 0, none⟩ = some (.bool n) := cell_blk hX 0
              have cX1 : ws15.cell? ⟨X1, 1, none⟩ = some (.int .u64 h) := cell_blk hX 1
              have cX2 : ws15.cell? ⟨X1, 2, none⟩ = some (.int .u64 l) := cell_blk hX 2
              have cX3 : ws15.cell? ⟨X1, 3, none⟩ = some (.int .i64 k) := cell_blk hX 3
              have cM0 : ws15.cell? ⟨X2, 0, none⟩ = some (.bool n) := cell_blk hM 0
              have cM1 : ws15.cell? ⟨X2, 1, none⟩ = some (.int .u64 h) := cell_blk hM 1
              have cM2 : ws15.cell? ⟨X2, 2, none⟩ = some (.int .u64 l) := cell_blk hM 2
              have cM3 : ws15.cell? ⟨X2, 3, none⟩ = some (.int .i64 k) := cell_blk hM 3
              go_wp2_with fail
              refine (eqFrac_same n h l k _).mono ?_
              rintro e w9 ⟨rfl, hB9⟩
              replace HT := Lib.hid (bt2 HT.out hB9)
              clear hB9
              go_wp2_with fail
              all_goals first
                | (go_ret; exact ⟨rfl, HT.out⟩)
                | (exfalso; simp_all; done)
          · skip
            go_simp
            have hN := box_new wc8 (.cells #[.bool false, .int .u64 0, .int .u64 0, .int .i64 0] 28)
            have hn1 : w.heap.size + 1 < wc8.heap.size := blkF hB
            have hn2 : X1 < wc8.heap.size := blkF hX
            replace hA := blkAl hA (.cells #[.bool false, .int .u64 0, .int .u64 0, .int .i64 0] 28)
            replace hB := blkAl hB (.cells #[.bool false, .int .u64 0, .int .u64 0, .int .i64 0] 28)
            replace hX := blkAl hX (.cells #[.bool false, .int .u64 0, .int .u64 0, .int .i64 0] 28)
            replace HT := Lib.hid (HT.out.alloc HT.out.size (.cells #[.bool false, .int .u64 0, .int .u64 0, .int .i64 0] 28))
            refine hK.out _ _ ?_ (fun hHeld => ?_)
            · exact ⟨cell_blk hA 0, cell_blk hA 1, cell_blk hA 2, cell_blk hA 3, cell_blk hB 0, cell_blk hB 1, cell_blk hB 2, cell_blk hB 3⟩
            clear hK K
            (try simp only [List.getElem_toArray, List.getElem_cons_succ, List.getElem_cons_zero, Act.put, List.setIfInBounds_toArray, List.set_cons_zero, List.set_cons_succ])
            generalize (wc8.alloc (.cells #[.bool false, .int .u64 0, .int .u64 0, .int .i64 0] 28)) = wa16 at hA hB hX hN HT hHeld ⊢
            generalize wc8.heap.size = X2 at hN hn1 hn2 ⊢
            refine wpAnyH_ready (rs := [3]) (by kernel_rfl) (by simp) ?_
            refine AllReadyH.cons rfl (fun K hK => ?_) AllReadyH.nil
            go_simp
            refine (toFrac n1 h1 l1 d1 _).mono ?_
            rintro e wc17 ⟨rfl, hBc⟩
            replace hA := box_still hA hBc
            replace hB := box_still hB hBc
            replace hX := box_still hX hBc
            replace hN := box_still hN hBc
            replace HT := Lib.hid (bt2 HT.out hBc)
            clear hBc
            refine hK.out _ _ ?_ (fun hHeld => ?_)
            · exact ⟨cell_blk hA 0, cell_blk hA 1, cell_blk hA 2, cell_blk hA 3, cell_blk hB 0, cell_blk hB 1, cell_blk hB 2, cell_blk hB 3⟩
            clear hK K
            (try simp only [List.getElem_toArray, List.getElem_cons_succ, List.getElem_cons_zero, Act.put, List.setIfInBounds_toArray, List.set_cons_zero, List.set_cons_succ])
            refine wpAnyH_ready (rs := [4]) (by kernel_rfl) (by simp) ?_
            refine AllReadyH.cons rfl (fun K hK => ?_) AllReadyH.nil
            go_simp
            refine (implAddFrac n0 h0 l0 d0 n1 h1 l1 d1 hp0 hq0 lp0 lq0 dp0 dq0 hp1 hq1 lp1 lq1 dp1 dq1 _).mono ?_
            rintro e wc18 ⟨rfl, hBc⟩
            rw [HE.out]
            replace hA := box_still hA hBc
            replace hB := box_still hB hBc
            replace hX := box_still hX hBc
            replace hN := box_still hN hBc
            replace HT := Lib.hid (bt2 HT.out hBc)
            clear hBc
            refine hK.out _ _ ?_ (fun hHeld => ?_)
            · exact ⟨cell_blk hA 0, cell_blk hA 1, cell_blk hA 2, cell_blk hA 3, cell_blk hB 0, cell_blk hB 1, cell_blk hB 2, cell_blk hB 3⟩
            clear hK K
            (try simp only [List.getElem_toArray, List.getElem_cons_succ, List.getElem_cons_zero, Act.put, List.setIfInBounds_toArray, List.set_cons_zero, List.set_cons_succ])
            refine wpAnyH_take (i := 5) (oi := ?o17) (v := ?v17) ?hi17 ?hs17 ?hf17 ?hr17 ?hQ17 ?hy17 ?hS17 ?rest17
            case hi17 => rfl
            case hs17 => kernel_rfl
            case hf17 => kernel_rfl
            case hr17 => kernel_rfl
            case hQ17 => exact fun _ _ _ h => h
            case hS17 => assumption
            case hy17 =>
              refine Or.inl ⟨by kernel_rfl, ?_⟩
              intro w' hSw
              (try dsimp only at hSw)
              go_simp
              (try rfl)
            (try simp only [List.getElem_toArray, List.getElem_cons_succ, List.getElem_cons_zero, Act.put, List.setIfInBounds_toArray, List.set_cons_zero, List.set_cons_succ])
            refine wpAnyH_take (i := 6) (oi := ?o18) (v := ?v18) ?hi18 ?hs18 ?hf18 ?hr18 ?hQ18 ?hy18 ?hS18 ?rest18
            case hi18 => rfl
            case hs18 => kernel_rfl
            case hf18 => kernel_rfl
            case hr18 => kernel_rfl
            case hQ18 => exact fun _ _ _ h => h
            case hS18 => assumption
            case hy18 =>
              refine Or.inl ⟨by kernel_rfl, ?_⟩
              intro w' hSw
              (try dsimp only at hSw)
              go_simp
              (try rfl)
            (try simp only [List.getElem_toArray, List.getElem_cons_succ, List.getElem_cons_zero, Act.put, List.setIfInBounds_toArray, List.set_cons_zero, List.set_cons_succ])
            refine wpAnyH_take (i := 7) (oi := ?o19) (v := ?v19) ?hi19 ?hs19 ?hf19 ?hr19 ?hQ19 ?hy19 ?hS19 ?rest19
            case hi19 => rfl
            case hs19 => kernel_rfl
            case hf19 => kernel_rfl
            case hr19 => kernel_rfl
            case hQ19 => exact fun _ _ _ h => h
            case hS19 => assumption
            case hy19 =>
              refine Or.inl ⟨by kernel_rfl, ?_⟩
              intro w' hSw
              (try dsimp only at hSw)
              go_simp
              (try rfl)
            (try simp only [List.getElem_toArray, List.getElem_cons_succ, List.getElem_cons_zero, Act.put, List.setIfInBounds_toArray, List.set_cons_zero, List.set_cons_succ])
            have cN0 : wc18.cell? ⟨X2, 0, none⟩ = some (.bool false) := cell_blk hN 0
            have cN1 : wc18.cell? ⟨X2, 1, none⟩ = some (.int .u64 0) := cell_blk hN 1
            have cN2 : wc18.cell? ⟨X2, 2, none⟩ = some (.int .u64 0) := cell_blk hN 2
            have cN3 : wc18.cell? ⟨X2, 3, none⟩ = some (.int .i64 0) := cell_blk hN 3
            have fN := free_blk hN
            have lN := blkF hN
            refine wpAnyH_ready (rs := [9]) (by kernel_rfl) (by simp) ?_
            refine AllReadyH.cons rfl (fun K hK => ?_) AllReadyH.nil
            go_simp
            replace hA := (st4_blk_farF (.bool n) (.int .u64 h) (.int .u64 l) (.int .i64 k) (show X2 ≠ w.heap.size by omega)).trans hA
            replace hB := (st4_blk_farF (.bool n) (.int .u64 h) (.int .u64 l) (.int .i64 k) (show X2 ≠ w.heap.size + 1 by omega)).trans hB
            replace hX := (st4_blk_farF (.bool n) (.int .u64 h) (.int .u64 l) (.int .i64 k) (show X2 ≠ X1 by omega)).trans hX
            have hM := st4_blkF (b0 := .bool n) (b1 := .int .u64 h) (b2 := .int .u64 l) (b3 := .int .i64 k) hN
            replace HT := Lib.hid (st4_belowF (X := X2) HT.out (by omega) (.bool n) (.int .u64 h) (.int .u64 l) (.int .i64 k))
            clear hN cN0 cN1 cN2 cN3 fN lN
            refine hK.out _ _ ?_ (fun hHeld => ?_)
            · exact ⟨cell_blk hA 0, cell_blk hA 1, cell_blk hA 2, cell_blk hA 3, cell_blk hB 0, cell_blk hB 1, cell_blk hB 2, cell_blk hB 3⟩
            clear hK K
            (try simp only [List.getElem_toArray, List.getElem_cons_succ, List.getElem_cons_zero, Act.put, List.setIfInBounds_toArray, List.set_cons_zero, List.set_cons_succ])
            generalize ((((wc18.setCell ⟨X2, 0, none⟩ (.bool n)).setCell ⟨X2, 1, none⟩ (.int .u64 h)).setCell ⟨X2, 2, none⟩ (.int .u64 l)).setCell ⟨X2, 3, none⟩ (.int .i64 k)) = ws19 at hA hB hX hM HT hHeld ⊢
            refine wpAnyH_take (i := 10) (oi := ?o20) (v := ?v20) ?hi20 ?hs20 ?hf20 ?hr20 ?hQ20 ?hy20 ?hS20 ?rest20
            case hi20 => rfl
            case hs20 => kernel_rfl
            case hf20 => kernel_rfl
            case hr20 => kernel_rfl
            case hQ20 => exact fun _ _ _ h => h
            case hS20 => assumption
            case hy20 =>
              refine Or.inl ⟨by kernel_rfl, ?_⟩
              intro w' hSw
              (try dsimp only at hSw)
              go_simp
              (try rfl)
            (try simp only [List.getElem_toArray, List.getElem_cons_succ, List.getElem_cons_zero, Act.put, List.setIfInBounds_toArray, List.set_cons_zero, List.set_cons_succ])
            refine wpAnyH_done (by kernel_rfl) ?_ _
            refine NoPanic.normal ?_
            have hx1 := blkF hX
            have hx2 := blkF hM
            have cX0 : ws19.cell? ⟨X1, 0, none⟩ = some (.bool n) := cell_blk hX 0
            have cX1 : ws19.cell? ⟨X1, 1, none⟩ = some (.int .u64 h) := cell_blk hX 1
            have cX2 : ws19.cell? ⟨X1, 2, none⟩ = some (.int .u64 l) := cell_blk hX 2
            have cX3 : ws19.cell? ⟨X1, 3, none⟩ = some (.int .i64 k) := cell_blk hX 3
            have cM0 : ws19.cell? ⟨X2, 0, none⟩ = some (.bool n) := cell_blk hM 0
            have cM1 : ws19.cell? ⟨X2, 1, none⟩ = some (.int .u64 h) := cell_blk hM 1
            have cM2 : ws19.cell? ⟨X2, 2, none⟩ = some (.int .u64 l) := cell_blk hM 2
            have cM3 : ws19.cell? ⟨X2, 3, none⟩ = some (.int .i64 k) := cell_blk hM 3
            go_wp2_with fail
            refine (eqFrac_same n h l k _).mono ?_
            rintro e w9 ⟨rfl, hB9⟩
            replace HT := Lib.hid (bt2 HT.out hB9)
            clear hB9
            go_wp2_with fail
            all_goals first
              | (go_ret; exact ⟨rfl, HT.out⟩)
              | (exfalso; simp_all; done)
        · skip
          go_simp
          have hN := box_new wd7 (.cells #[.bool false, .int .u64 0, .int .u64 0, .int .i64 0] 28)
          have hn1 : w.heap.size + 1 < wd7.heap.size := blkF hB
          have hn2 : X1 < wd7.heap.size := blkF hX
          replace hA := blkAl hA (.cells #[.bool false, .int .u64 0, .int .u64 0, .int .i64 0] 28)
          replace hB := blkAl hB (.cells #[.bool false, .int .u64 0, .int .u64 0, .int .i64 0] 28)
          replace hX := blkAl hX (.cells #[.bool false, .int .u64 0, .int .u64 0, .int .i64 0] 28)
          replace HT := Lib.hid (HT.out.alloc HT.out.size (.cells #[.bool false, .int .u64 0, .int .u64 0, .int .i64 0] 28))
          refine hK.out _ _ ?_ (fun hHeld => ?_)
          · exact ⟨cell_blk hA 0, cell_blk hA 1, cell_blk hA 2, cell_blk hA 3, cell_blk hB 0, cell_blk hB 1, cell_blk hB 2, cell_blk hB 3⟩
          clear hK K
          (try simp only [List.getElem_toArray, List.getElem_cons_succ, List.getElem_cons_zero, Act.put, List.setIfInBounds_toArray, List.set_cons_zero, List.set_cons_succ])
          generalize (wd7.alloc (.cells #[.bool false, .int .u64 0, .int .u64 0, .int .i64 0] 28)) = wa20 at hA hB hX hN HT hHeld ⊢
          generalize wd7.heap.size = X2 at hN hn1 hn2 ⊢
          refine wpAnyH_ready (rs := [1]) (by kernel_rfl) (by simp) ?_
          refine AllReadyH.cons rfl (fun K hK => ?_) AllReadyH.nil
          go_simp
          refine (toFrac n0 h0 l0 d0 _).mono ?_
          rintro e wc21 ⟨rfl, hBc⟩
          replace hA := box_still hA hBc
          replace hB := box_still hB hBc
          replace hX := box_still hX hBc
          replace hN := box_still hN hBc
          replace HT := Lib.hid (bt2 HT.out hBc)
          clear hBc
          refine hK.out _ _ ?_ (fun hHeld => ?_)
          · exact ⟨cell_blk hA 0, cell_blk hA 1, cell_blk hA 2, cell_blk hA 3, cell_blk hB 0, cell_blk hB 1, cell_blk hB 2, cell_blk hB 3⟩
          clear hK K
          (try simp only [List.getElem_toArray, List.getElem_cons_succ, List.getElem_cons_zero, Act.put, List.setIfInBounds_toArray, List.set_cons_zero, List.set_cons_succ])
          refine wpAnyH_ready (rs := [3]) (by kernel_rfl) (by simp) ?_
          refine AllReadyH.cons rfl (fun K hK => ?_) AllReadyH.nil
          go_simp
          refine (toFrac n1 h1 l1 d1 _).mono ?_
          rintro e wc22 ⟨rfl, hBc⟩
          replace hA := box_still hA hBc
          replace hB := box_still hB hBc
          replace hX := box_still hX hBc
          replace hN := box_still hN hBc
          replace HT := Lib.hid (bt2 HT.out hBc)
          clear hBc
          refine hK.out _ _ ?_ (fun hHeld => ?_)
          · exact ⟨cell_blk hA 0, cell_blk hA 1, cell_blk hA 2, cell_blk hA 3, cell_blk hB 0, cell_blk hB 1, cell_blk hB 2, cell_blk hB 3⟩
          clear hK K
          (try simp only [List.getElem_toArray, List.getElem_cons_succ, List.getElem_cons_zero, Act.put, List.setIfInBounds_toArray, List.set_cons_zero, List.set_cons_succ])
          refine wpAnyH_ready (rs := [4]) (by kernel_rfl) (by simp) ?_
          refine AllReadyH.cons rfl (fun K hK => ?_) AllReadyH.nil
          go_simp
          refine (implAddFrac n0 h0 l0 d0 n1 h1 l1 d1 hp0 hq0 lp0 lq0 dp0 dq0 hp1 hq1 lp1 lq1 dp1 dq1 _).mono ?_
          rintro e wc23 ⟨rfl, hBc⟩
          rw [HE.out]
          replace hA := box_still hA hBc
          replace hB := box_still hB hBc
          replace hX := box_still hX hBc
          replace hN := box_still hN hBc
          replace HT := Lib.hid (bt2 HT.out hBc)
          clear hBc
          refine hK.out _ _ ?_ (fun hHeld => ?_)
          · exact ⟨cell_blk hA 0, cell_blk hA 1, cell_blk hA 2, cell_blk hA 3, cell_blk hB 0, cell_blk hB 1, cell_blk hB 2, cell_blk hB 3⟩
          clear hK K
          (try simp only [List.getElem_toArray, List.getElem_cons_succ, List.getElem_cons_zero, Act.put, List.setIfInBounds_toArray, List.set_cons_zero, List.set_cons_succ])
          refine wpAnyH_take (i := 5) (oi := ?o21) (v := ?v21) ?hi21 ?hs21 ?hf21 ?hr21 ?hQ21 ?hy21 ?hS21 ?rest21
          case hi21 => rfl
          case hs21 => kernel_rfl
          case hf21 => kernel_rfl
          case hr21 => kernel_rfl
          case hQ21 => exact fun _ _ _ h => h
          case hS21 => assumption
          case hy21 =>
            refine Or.inl ⟨by kernel_rfl, ?_⟩
            intro w' hSw
            (try dsimp only at hSw)
            go_simp
            (try rfl)
          (try simp only [List.getElem_toArray, List.getElem_cons_succ, List.getElem_cons_zero, Act.put, List.setIfInBounds_toArray, List.set_cons_zero, List.set_cons_succ])
          refine wpAnyH_take (i := 6) (oi := ?o22) (v := ?v22) ?hi22 ?hs22 ?hf22 ?hr22 ?hQ22 ?hy22 ?hS22 ?rest22
          case hi22 => rfl
          case hs22 => kernel_rfl
          case hf22 => kernel_rfl
          case hr22 => kernel_rfl
          case hQ22 => exact fun _ _ _ h => h
          case hS22 => assumption
          case hy22 =>
            refine Or.inl ⟨by kernel_rfl, ?_⟩
            intro w' hSw
            (try dsimp only at hSw)
            go_simp
            (try rfl)
          (try simp only [List.getElem_toArray, List.getElem_cons_succ, List.getElem_cons_zero, Act.put, List.setIfInBounds_toArray, List.set_cons_zero, List.set_cons_succ])
          refine wpAnyH_take (i := 7) (oi := ?o23) (v := ?v23) ?hi23 ?hs23 ?hf23 ?hr23 ?hQ23 ?hy23 ?hS23 ?rest23
          case hi23 => rfl
          case hs23 => kernel_rfl
          case hf23 => kernel_rfl
          case hr23 => kernel_rfl
          case hQ23 => exact fun _ _ _ h => h
          case hS23 => assumption
          case hy23 =>
            refine Or.inl ⟨by kernel_rfl, ?_⟩
            intro w' hSw
            (try dsimp only at hSw)
            go_simp
            (try rfl)
          (try simp only [List.getElem_toArray, List.getElem_cons_succ, List.getElem_cons_zero, Act.put, List.setIfInBounds_toArray, List.set_cons_zero, List.set_cons_succ])
          have cN0 : wc23.cell? ⟨X2, 0, none⟩ = some (.bool false) := cell_blk hN 0
          have cN1 : wc23.cell? ⟨X2, 1, none⟩ = some (.int .u64 0) := cell_blk hN 1
          have cN2 : wc23.cell? ⟨X2, 2, none⟩ = some (.int .u64 0) := cell_blk hN 2
          have cN3 : wc23.cell? ⟨X2, 3, none⟩ = some (.int .i64 0) := cell_blk hN 3
          have fN := free_blk hN
          have lN := blkF hN
          refine wpAnyH_ready (rs := [9]) (by kernel_rfl) (by simp) ?_
          refine AllReadyH.cons rfl (fun K hK => ?_) AllReadyH.nil
          go_simp
          replace hA := (st4_blk_farF (.bool n) (.int .u64 h) (.int .u64 l) (.int .i64 k) (show X2 ≠ w.heap.size by omega)).trans hA
          replace hB := (st4_blk_farF (.bool n) (.int .u64 h) (.int .u64 l) (.int .i64 k) (show X2 ≠ w.heap.size + 1 by omega)).trans hB
          replace hX := (st4_blk_farF (.bool n) (.int .u64 h) (.int .u64 l) (.int .i64 k) (show X2 ≠ X1 by omega)).trans hX
          have hM := st4_blkF (b0 := .bool n) (b1 := .int .u64 h) (b2 := .int .u64 l) (b3 := .int .i64 k) hN
          replace HT := Lib.hid (st4_belowF (X := X2) HT.out (by omega) (.bool n) (.int .u64 h) (.int .u64 l) (.int .i64 k))
          clear hN cN0 cN1 cN2 cN3 fN lN
          refine hK.out _ _ ?_ (fun hHeld => ?_)
          · exact ⟨cell_blk hA 0, cell_blk hA 1, cell_blk hA 2, cell_blk hA 3, cell_blk hB 0, cell_blk hB 1, cell_blk hB 2, cell_blk hB 3⟩
          clear hK K
          (try simp only [List.getElem_toArray, List.getElem_cons_succ, List.getElem_cons_zero, Act.put, List.setIfInBounds_toArray, List.set_cons_zero, List.set_cons_succ])
          generalize ((((wc23.setCell ⟨X2, 0, none⟩ (.bool n)).setCell ⟨X2, 1, none⟩ (.int .u64 h)).setCell ⟨X2, 2, none⟩ (.int .u64 l)).setCell ⟨X2, 3, none⟩ (.int .i64 k)) = ws24 at hA hB hX hM HT hHeld ⊢
          refine wpAnyH_take (i := 10) (oi := ?o24) (v := ?v24) ?hi24 ?hs24 ?hf24 ?hr24 ?hQ24 ?hy24 ?hS24 ?rest24
          case hi24 => rfl
          case hs24 => kernel_rfl
          case hf24 => kernel_rfl
          case hr24 => kernel_rfl
          case hQ24 => exact fun _ _ _ h => h
          case hS24 => assumption
          case hy24 =>
            refine Or.inl ⟨by kernel_rfl, ?_⟩
            intro w' hSw
            (try dsimp only at hSw)
            go_simp
            (try rfl)
          (try simp only [List.getElem_toArray, List.getElem_cons_succ, List.getElem_cons_zero, Act.put, List.setIfInBounds_toArray, List.set_cons_zero, List.set_cons_succ])
          refine wpAnyH_done (by kernel_rfl) ?_ _
          refine NoPanic.normal ?_
          have hx1 := blkF hX
          have hx2 := blkF hM
          have cX0 : ws24.cell? ⟨X1, 0, none⟩ = some (.bool n) := cell_blk hX 0
          have cX1 : ws24.cell? ⟨X1, 1, none⟩ = some (.int .u64 h) := cell_blk hX 1
          have cX2 : ws24.cell? ⟨X1, 2, none⟩ = some (.int .u64 l) := cell_blk hX 2
          have cX3 : ws24.cell? ⟨X1, 3, none⟩ = some (.int .i64 k) := cell_blk hX 3
          have cM0 : ws24.cell? ⟨X2, 0, none⟩ = some (.bool n) := cell_blk hM 0
          have cM1 : ws24.cell? ⟨X2, 1, none⟩ = some (.int .u64 h) := cell_blk hM 1
          have cM2 : ws24.cell? ⟨X2, 2, none⟩ = some (.int .u64 l) := cell_blk hM 2
          have cM3 : ws24.cell? ⟨X2, 3, none⟩ = some (.int .i64 k) := cell_blk hM 3
          go_wp2_with fail
          refine (eqFrac_same n h l k _).mono ?_
          rintro e w9 ⟨rfl, hB9⟩
          replace HT := Lib.hid (bt2 HT.out hB9)
          clear hB9
          go_wp2_with fail
          all_goals first
            | (go_ret; exact ⟨rfl, HT.out⟩)
            | (exfalso; simp_all; done)
      · skip
        go_simp
        have hN := box_new wc3 (.cells #[.bool false, .int .u64 0, .int .u64 0, .int .i64 0] 28)
        have hn1 : w.heap.size + 1 < wc3.heap.size := blkF hB
        replace hA := blkAl hA (.cells #[.bool false, .int .u64 0, .int .u64 0, .int .i64 0] 28)
        replace hB := blkAl hB (.cells #[.bool false, .int .u64 0, .int .u64 0, .int .i64 0] 28)
        replace HT := Lib.hid (HT.out.alloc HT.out.size (.cells #[.bool false, .int .u64 0, .int .u64 0, .int .i64 0] 28))
        refine hK.out _ _ ?_ (fun hHeld => ?_)
        · exact ⟨cell_blk hA 0, cell_blk hA 1, cell_blk hA 2, cell_blk hA 3, cell_blk hB 0, cell_blk hB 1, cell_blk hB 2, cell_blk hB 3⟩
        clear hK K
        (try simp only [List.getElem_toArray, List.getElem_cons_succ, List.getElem_cons_zero, Act.put, List.setIfInBounds_toArray, List.set_cons_zero, List.set_cons_succ])
        generalize (wc3.alloc (.cells #[.bool false, .int .u64 0, .int .u64 0, .int .i64 0] 28)) = wa25 at hA hB hN HT hHeld ⊢
        generalize wc3.heap.size = X1 at hN hn1 ⊢
        refine wpAnyH_ready (rs := [4]) (by kernel_rfl) (by simp) ?_
        refine AllReadyH.cons rfl (fun K hK => ?_) AllReadyH.nil
        go_simp
        refine (specAddFrac n0 h0 l0 d0 n1 h1 l1 d1 hp0 hq0 lp0 lq0 dp0 dq0 hp1 hq1 lp1 lq1 dp1 dq1 _).mono ?_
        rintro e wc26 ⟨rfl, hBc⟩
        rw [HE.out]
        replace hA := box_still hA hBc
        replace hB := box_still hB hBc
        replace hN := box_still hN hBc
        replace HT := Lib.hid (bt2 HT.out hBc)
        clear hBc
        refine hK.out _ _ ?_ (fun hHeld => ?_)
        · exact ⟨cell_blk hA 0, cell_blk hA 1, cell_blk hA 2, cell_blk hA 3, cell_blk hB 0, cell_blk hB 1, cell_blk hB 2, cell_blk hB 3⟩
        clear hK K
        (try simp only [List.getElem_toArray, List.getElem_cons_succ, List.getElem_cons_zero, Act.put, List.setIfInBounds_toArray, List.set_cons_zero, List.set_cons_succ])
        refine wpAnyH_take (i := 5) (oi := ?o25) (v := ?v25) ?hi25 ?hs25 ?hf25 ?hr25 ?hQ25 ?hy25 ?hS25 ?rest25
        case hi25 => rfl
        case hs25 => kernel_rfl
        case hf25 => kernel_rfl
        case hr25 => kernel_rfl
        case hQ25 => exact fun _ _ _ h => h
        case hS25 => assumption
        case hy25 =>
          refine Or.inl ⟨by kernel_rfl, ?_⟩
          intro w' hSw
          (try dsimp only at hSw)
          go_simp
          (try rfl)
        (try simp only [List.getElem_toArray, List.getElem_cons_succ, List.getElem_cons_zero, Act.put, List.setIfInBounds_toArray, List.set_cons_zero, List.set_cons_succ])
        refine wpAnyH_take (i := 6) (oi := ?o26) (v := ?v26) ?hi26 ?hs26 ?hf26 ?hr26 ?hQ26 ?hy26 ?hS26 ?rest26
        case hi26 => rfl
        case hs26 => kernel_rfl
        case hf26 => kernel_rfl
        case hr26 => kernel_rfl
        case hQ26 => exact fun _ _ _ h => h
        case hS26 => assumption
        case hy26 =>
          refine Or.inl ⟨by kernel_rfl, ?_⟩
          intro w' hSw
          (try dsimp only at hSw)
          go_simp
          (try rfl)
        (try simp only [List.getElem_toArray, List.getElem_cons_succ, List.getElem_cons_zero, Act.put, List.setIfInBounds_toArray, List.set_cons_zero, List.set_cons_succ])
        refine wpAnyH_take (i := 7) (oi := ?o27) (v := ?v27) ?hi27 ?hs27 ?hf27 ?hr27 ?hQ27 ?hy27 ?hS27 ?rest27
        case hi27 => rfl
        case hs27 => kernel_rfl
        case hf27 => kernel_rfl
        case hr27 => kernel_rfl
        case hQ27 => exact fun _ _ _ h => h
        case hS27 => assumption
        case hy27 =>
          refine Or.inl ⟨by kernel_rfl, ?_⟩
          intro w' hSw
          (try dsimp only at hSw)
          go_simp
          (try rfl)
        (try simp only [List.getElem_toArray, List.getElem_cons_succ, List.getElem_cons_zero, Act.put, List.setIfInBounds_toArray, List.set_cons_zero, List.set_cons_succ])
        have cN0 : wc26.cell? ⟨X1, 0, none⟩ = some (.bool false) := cell_blk hN 0
        have cN1 : wc26.cell? ⟨X1, 1, none⟩ = some (.int .u64 0) := cell_blk hN 1
        have cN2 : wc26.cell? ⟨X1, 2, none⟩ = some (.int .u64 0) := cell_blk hN 2
        have cN3 : wc26.cell? ⟨X1, 3, none⟩ = some (.int .i64 0) := cell_blk hN 3
        have fN := free_blk hN
        have lN := blkF hN
        refine wpAnyH_ready (rs := [9]) (by kernel_rfl) (by simp) ?_
        refine AllReadyH.cons rfl (fun K hK => ?_) AllReadyH.nil
        go_simp
        replace hA := (st4_blk_farF (.bool n) (.int .u64 h) (.int .u64 l) (.int .i64 k) (show X1 ≠ w.heap.size by omega)).trans hA
        replace hB := (st4_blk_farF (.bool n) (.int .u64 h) (.int .u64 l) (.int .i64 k) (show X1 ≠ w.heap.size + 1 by omega)).trans hB
        have hM := st4_blkF (b0 := .bool n) (b1 := .int .u64 h) (b2 := .int .u64 l) (b3 := .int .i64 k) hN
        replace HT := Lib.hid (st4_belowF (X := X1) HT.out (by omega) (.bool n) (.int .u64 h) (.int .u64 l) (.int .i64 k))
        clear hN cN0 cN1 cN2 cN3 fN lN
        refine hK.out _ _ ?_ (fun hHeld => ?_)
        · exact ⟨cell_blk hA 0, cell_blk hA 1, cell_blk hA 2, cell_blk hA 3, cell_blk hB 0, cell_blk hB 1, cell_blk hB 2, cell_blk hB 3⟩
        clear hK K
        (try simp only [List.getElem_toArray, List.getElem_cons_succ, List.getElem_cons_zero, Act.put, List.setIfInBounds_toArray, List.set_cons_zero, List.set_cons_succ])
        generalize ((((wc26.setCell ⟨X1, 0, none⟩ (.bool n)).setCell ⟨X1, 1, none⟩ (.int .u64 h)).setCell ⟨X1, 2, none⟩ (.int .u64 l)).setCell ⟨X1, 3, none⟩ (.int .i64 k)) = ws27 at hA hB hM HT hHeld ⊢
        refine wpAnyH_take (i := 10) (oi := ?o28) (v := ?v28) ?hi28 ?hs28 ?hf28 ?hr28 ?hQ28 ?hy28 ?hS28 ?rest28
        case hi28 => rfl
        case hs28 => kernel_rfl
        case hf28 => kernel_rfl
        case hr28 => kernel_rfl
        case hQ28 => exact fun _ _ _ h => h
        case hS28 => assumption
        case hy28 =>
          refine Or.inl ⟨by kernel_rfl, ?_⟩
          intro w' hSw
          (try dsimp only at hSw)
          go_simp
          (try rfl)
        (try simp only [List.getElem_toArray, List.getElem_cons_succ, List.getElem_cons_zero, Act.put, List.setIfInBounds_toArray, List.set_cons_zero, List.set_cons_succ])
        refine wpAnyH_done (by kernel_rfl) ?_ _
        refine NoPanic.normal ?_
        have hX := hM
        clear hM
        go_wp2_with fail
        have hDD : ws27.drew.cell? ⟨w.heap.size, 0, none⟩ = some (.bool n0) ∧ ws27.drew.cell? ⟨w.heap.size, 1, none⟩ = some (.int .u64 h0) ∧ ws27.drew.cell? ⟨w.heap.size, 2, none⟩ = some (.int .u64 l0) ∧ ws27.drew.cell? ⟨w.heap.size, 3, none⟩ = some (.int .i64 d0) ∧ ws27.drew.cell? ⟨w.heap.size + 1, 0, none⟩ = some (.bool n1) ∧ ws27.drew.cell? ⟨w.heap.size + 1, 1, none⟩ = some (.int .u64 h1) ∧ ws27.drew.cell? ⟨w.heap.size + 1, 2, none⟩ = some (.int .u64 l1) ∧ ws27.drew.cell? ⟨w.heap.size + 1, 3, none⟩ = some (.int .i64 d1) := ⟨cell_blk (w := ws27) hA 0, cell_blk (w := ws27) hA 1, cell_blk (w := ws27) hA 2, cell_blk (w := ws27) hA 3, cell_blk (w := ws27) hB 0, cell_blk (w := ws27) hB 1, cell_blk (w := ws27) hB 2, cell_blk (w := ws27) hB 3⟩
        refine wp_region_noPanic ?_
        refine wp_region_held_drew (S := (fun w' => w'.cell? ⟨w.heap.size, 0, none⟩ = some (.bool n0) ∧ w'.cell? ⟨w.heap.size, 1, none⟩ = some (.int .u64 h0) ∧ w'.cell? ⟨w.heap.size, 2, none⟩ = some (.int .u64 l0) ∧ w'.cell? ⟨w.heap.size, 3, none⟩ = some (.int .i64 d0) ∧ w'.cell? ⟨w.heap.size + 1, 0, none⟩ = some (.bool n1) ∧ w'.cell? ⟨w.heap.size + 1, 1, none⟩ = some (.int .u64 h1) ∧ w'.cell? ⟨w.heap.size + 1, 2, none⟩ = some (.int .u64 l1) ∧ w'.cell? ⟨w.heap.size + 1, 3, none⟩ = some (.int .i64 d1))) (by kernel_rfl) hDD (fun hHeld => ?_)
        clear hDD
        replace hA : ws27.drew.heap[w.heap.size]? = _ := hA
        replace hB : ws27.drew.heap[w.heap.size + 1]? = _ := hB
        replace hX : ws27.drew.heap[X1]? = _ := hX
        replace HT : Hid (Below w.heap.size w ws27.drew) := Lib.hid (Below.drew HT.out)
        generalize ws27.drew = wd28 at hA hB hX HT hHeld ⊢
        refine wpAnyH_take (i := 0) (oi := ?o29) (v := ?v29) ?hi29 ?hs29 ?hf29 ?hr29 ?hQ29 ?hy29 ?hS29 ?rest29
        case hi29 => rfl
        case hs29 => kernel_rfl
        case hf29 => kernel_rfl
        case hr29 => kernel_rfl
        case hQ29 => exact fun _ _ _ h => h
        case hS29 => assumption
        case hy29 =>
          refine Or.inl ⟨by kernel_rfl, ?_⟩
          intro w' hSw
          (try dsimp only at hSw)
          go_simp
          (try rfl)
        (try simp only [List.getElem_toArray, List.getElem_cons_zero, Act.put, List.setIfInBounds_toArray, List.set_cons_zero, List.set_cons_succ])
        refine wpAnyH_take (i := 2) (oi := ?o30) (v := ?v30) ?hi30 ?hs30 ?hf30 ?hr30 ?hQ30 ?hy30 ?hS30 ?rest30
        case hi30 => rfl
        case hs30 => kernel_rfl
        case hf30 => kernel_rfl
        case hr30 => kernel_rfl
        case hQ30 => exact fun _ _ _ h => h
        case hS30 => assumption
        case hy30 =>
          refine Or.inl ⟨by kernel_rfl, ?_⟩
          intro w' hSw
          (try dsimp only at hSw)
          go_simp
          (try rfl)
        (try simp only [List.getElem_toArray, List.getElem_cons_succ, List.getElem_cons_zero, Act.put, List.setIfInBounds_toArray, List.set_cons_zero, List.set_cons_succ])
        refine wpAnyH_ready (rs := [1, 8]) (by kernel_rfl) (by simp) ?_
        refine AllReadyH.cons rfl (fun K hK => ?_) (AllReadyH.cons rfl (fun K hK => ?_) AllReadyH.nil)
        · skip
          go_simp
          refine (toFrac n0 h0 l0 d0 _).mono ?_
          rintro e wc29 ⟨rfl, hBc⟩
          replace hA := box_still hA hBc
          replace hB := box_still hB hBc
          replace hX := box_still hX hBc
          replace HT := Lib.hid (bt2 HT.out hBc)
          clear hBc
          refine hK.out _ _ ?_ (fun hHeld => ?_)
          · exact ⟨cell_blk hA 0, cell_blk hA 1, cell_blk hA 2, cell_blk hA 3, cell_blk hB 0, cell_blk hB 1, cell_blk hB 2, cell_blk hB 3⟩
          clear hK K
          (try simp only [List.getElem_toArray, List.getElem_cons_succ, List.getElem_cons_zero, Act.put, List.setIfInBounds_toArray, List.set_cons_zero, List.set_cons_succ])
          refine wpAnyH_ready (rs := [3, 8]) (by kernel_rfl) (by simp) ?_
          refine AllReadyH.cons rfl (fun K hK => ?_) (AllReadyH.cons rfl (fun K hK => ?_) AllReadyH.nil)
          · skip
            go_simp
            refine (toFrac n1 h1 l1 d1 _).mono ?_
            rintro e wc30 ⟨rfl, hBc⟩
            replace hA := box_still hA hBc
            replace hB := box_still hB hBc
            replace hX := box_still hX hBc
            replace HT := Lib.hid (bt2 HT.out hBc)
            clear hBc
            refine hK.out _ _ ?_ (fun hHeld => ?_)
            · exact ⟨cell_blk hA 0, cell_blk hA 1, cell_blk hA 2, cell_blk hA 3, cell_blk hB 0, cell_blk hB 1, cell_blk hB 2, cell_blk hB 3⟩
            clear hK K
            (try simp only [List.getElem_toArray, List.getElem_cons_succ, List.getElem_cons_zero, Act.put, List.setIfInBounds_toArray, List.set_cons_zero, List.set_cons_succ])
            refine wpAnyH_ready (rs := [4, 8]) (by kernel_rfl) (by simp) ?_
            refine AllReadyH.cons rfl (fun K hK => ?_) (AllReadyH.cons rfl (fun K hK => ?_) AllReadyH.nil)
            · skip
              go_simp
              refine (implAddFrac n0 h0 l0 d0 n1 h1 l1 d1 hp0 hq0 lp0 lq0 dp0 dq0 hp1 hq1 lp1 lq1 dp1 dq1 _).mono ?_
              rintro e wc31 ⟨rfl, hBc⟩
              rw [HE.out]
              replace hA := box_still hA hBc
              replace hB := box_still hB hBc
              replace hX := box_still hX hBc
              replace HT := Lib.hid (bt2 HT.out hBc)
              clear hBc
              refine hK.out _ _ ?_ (fun hHeld => ?_)
              · exact ⟨cell_blk hA 0, cell_blk hA 1, cell_blk hA 2, cell_blk hA 3, cell_blk hB 0, cell_blk hB 1, cell_blk hB 2, cell_blk hB 3⟩
              clear hK K
              (try simp only [List.getElem_toArray, List.getElem_cons_succ, List.getElem_cons_zero, Act.put, List.setIfInBounds_toArray, List.set_cons_zero, List.set_cons_succ])
              refine wpAnyH_take (i := 5) (oi := ?o31) (v := ?v31) ?hi31 ?hs31 ?hf31 ?hr31 ?hQ31 ?hy31 ?hS31 ?rest31
              case hi31 => rfl
              case hs31 => kernel_rfl
              case hf31 => kernel_rfl
              case hr31 => kernel_rfl
              case hQ31 => exact fun _ _ _ h => h
              case hS31 => assumption
              case hy31 =>
                refine Or.inl ⟨by kernel_rfl, ?_⟩
                intro w' hSw
                (try dsimp only at hSw)
                go_simp
                (try rfl)
              (try simp only [List.getElem_toArray, List.getElem_cons_succ, List.getElem_cons_zero, Act.put, List.setIfInBounds_toArray, List.set_cons_zero, List.set_cons_succ])
              refine wpAnyH_take (i := 6) (oi := ?o32) (v := ?v32) ?hi32 ?hs32 ?hf32 ?hr32 ?hQ32 ?hy32 ?hS32 ?rest32
              case hi32 => rfl
              case hs32 => kernel_rfl
              case hf32 => kernel_rfl
              case hr32 => kernel_rfl
              case hQ32 => exact fun _ _ _ h => h
              case hS32 => assumption
              case hy32 =>
                refine Or.inl ⟨by kernel_rfl, ?_⟩
                intro w' hSw
                (try dsimp only at hSw)
                go_simp
                (try rfl)
              (try simp only [List.getElem_toArray, List.getElem_cons_succ, List.getElem_cons_zero, Act.put, List.setIfInBounds_toArray, List.set_cons_zero, List.set_cons_succ])
              refine wpAnyH_take (i := 7) (oi := ?o33) (v := ?v33) ?hi33 ?hs33 ?hf33 ?hr33 ?hQ33 ?hy33 ?hS33 ?rest33
              case hi33 => rfl
              case hs33 => kernel_rfl
              case hf33 => kernel_rfl
              case hr33 => kernel_rfl
              case hQ33 => exact fun _ _ _ h => h
              case hS33 => assumption
              case hy33 =>
                refine Or.inl ⟨by kernel_rfl, ?_⟩
                intro w' hSw
                (try dsimp only at hSw)
                go_simp
                (try rfl)
              (try simp only [List.getElem_toArray, List.getElem_cons_succ, List.getElem_cons_zero, Act.put, List.setIfInBounds_toArray, List.set_cons_zero, List.set_cons_succ])
              refine wpAnyH_ready (rs := [8]) (by kernel_rfl) (by simp) ?_
              refine AllReadyH.cons rfl (fun K hK => ?_) AllReadyH.nil
              go_simp
              have hN := box_new wc31 (.cells #[.bool false, .int .u64 0, .int .u64 0, .int .i64 0] 28)
              have hn1 : w.heap.size + 1 < wc31.heap.size := blkF hB
              have hn2 : X1 < wc31.heap.size := blkF hX
              replace hA := blkAl hA (.cells #[.bool false, .int .u64 0, .int .u64 0, .int .i64 0] 28)
              replace hB := blkAl hB (.cells #[.bool false, .int .u64 0, .int .u64 0, .int .i64 0] 28)
              replace hX := blkAl hX (.cells #[.bool false, .int .u64 0, .int .u64 0, .int .i64 0] 28)
              replace HT := Lib.hid (HT.out.alloc HT.out.size (.cells #[.bool false, .int .u64 0, .int .u64 0, .int .i64 0] 28))
              refine hK.out _ _ ?_ (fun hHeld => ?_)
              · exact ⟨cell_blk hA 0, cell_blk hA 1, cell_blk hA 2, cell_blk hA 3, cell_blk hB 0, cell_blk hB 1, cell_blk hB 2, cell_blk hB 3⟩
              clear hK K
              (try simp only [List.getElem_toArray, List.getElem_cons_succ, List.getElem_cons_zero, Act.put, List.setIfInBounds_toArray, List.set_cons_zero, List.set_cons_succ])
              generalize (wc31.alloc (.cells #[.bool false, .int .u64 0, .int .u64 0, .int .i64 0] 28)) = wa32 at hA hB hX hN HT hHeld ⊢
              generalize wc31.heap.size = X2 at hN hn1 hn2 ⊢
              have cN0 : wa32.cell? ⟨X2, 0, none⟩ = some (.bool false) := cell_blk hN 0
              have cN1 : wa32.cell? ⟨X2, 1, none⟩ = some (.int .u64 0) := cell_blk hN 1
              have cN2 : wa32.cell? ⟨X2, 2, none⟩ = some (.int .u64 0) := cell_blk hN 2
              have cN3 : wa32.cell? ⟨X2, 3, none⟩ = some (.int .i64 0) := cell_blk hN 3
              have fN := free_blk hN
              have lN := blkF hN
              refine wpAnyH_ready (rs := [9]) (by kernel_rfl) (by simp) ?_
              refine AllReadyH.cons rfl (fun K hK => ?_) AllReadyH.nil
              go_simp
              replace hA := (st4_blk_farF (.bool n) (.int .u64 h) (.int .u64 l) (.int .i64 k) (show X2 ≠ w.heap.size by omega)).trans hA
              replace hB := (st4_blk_farF (.bool n) (.int .u64 h) (.int .u64 l) (.int .i64 k) (show X2 ≠ w.heap.size + 1 by omega)).trans hB
              replace hX := (st4_blk_farF (.bool n) (.int .u64 h) (.int .u64 l) (.int .i64 k) (show X2 ≠ X1 by omega)).trans hX
              have hM := st4_blkF (b0 := .bool n) (b1 := .int .u64 h) (b2 := .int .u64 l) (b3 := .int .i64 k) hN
              replace HT := Lib.hid (st4_belowF (X := X2) HT.out (by omega) (.bool n) (.int .u64 h) (.int .u64 l) (.int .i64 k))
              clear hN cN0 cN1 cN2 cN3 fN lN
              refine hK.out _ _ ?_ (fun hHeld => ?_)
              · exact ⟨cell_blk hA 0, cell_blk hA 1, cell_blk hA 2, cell_blk hA 3, cell_blk hB 0, cell_blk hB 1, cell_blk hB 2, cell_blk hB 3⟩
              clear hK K
              (try simp only [List.getElem_toArray, List.getElem_cons_succ, List.getElem_cons_zero, Act.put, List.setIfInBounds_toArray, List.set_cons_zero, List.set_cons_succ])
              generalize ((((wa32.setCell ⟨X2, 0, none⟩ (.bool n)).setCell ⟨X2, 1, none⟩ (.int .u64 h)).setCell ⟨X2, 2, none⟩ (.int .u64 l)).setCell ⟨X2, 3, none⟩ (.int .i64 k)) = ws33 at hA hB hX hM HT hHeld ⊢
              refine wpAnyH_take (i := 10) (oi := ?o34) (v := ?v34) ?hi34 ?hs34 ?hf34 ?hr34 ?hQ34 ?hy34 ?hS34 ?rest34
              case hi34 => rfl
              case hs34 => kernel_rfl
              case hf34 => kernel_rfl
              case hr34 => kernel_rfl
              case hQ34 => exact fun _ _ _ h => h
              case hS34 => assumption
              case hy34 =>
                refine Or.inl ⟨by kernel_rfl, ?_⟩
                intro w' hSw
                (try dsimp only at hSw)
                go_simp
                (try rfl)
              (try simp only [List.getElem_toArray, List.getElem_cons_succ, List.getElem_cons_zero, Act.put, List.setIfInBounds_toArray, List.set_cons_zero, List.set_cons_succ])
              refine wpAnyH_done (by kernel_rfl) ?_ _
              refine NoPanic.normal ?_
              have hx1 := blkF hX
              have hx2 := blkF hM
              have cX0 : ws33.cell? ⟨X1, 0, none⟩ = some (.bool n) := cell_blk hX 0
              have cX1 : ws33.cell? ⟨X1, 1, none⟩ = some (.int .u64 h) := cell_blk hX 1
              have cX2 : ws33.cell? ⟨X1, 2, none⟩ = some (.int .u64 l) := cell_blk hX 2
              have cX3 : ws33.cell? ⟨X1, 3, none⟩ = some (.int .i64 k) := cell_blk hX 3
              have cM0 : ws33.cell? ⟨X2, 0, none⟩ = some (.bool n) := cell_blk hM 0
              have cM1 : ws33.cell? ⟨X2, 1, none⟩ = some (.int .u64 h) := cell_blk hM 1
              have cM2 : ws33.cell? ⟨X2, 2, none⟩ = some (.int .u64 l) := cell_blk hM 2
              have cM3 : ws33.cell? ⟨X2, 3, none⟩ = some (.int .i64 k) := cell_blk hM 3
              go_wp2_with fail
              refine (eqFrac_same n h l k _).mono ?_
              rintro e w9 ⟨rfl, hB9⟩
              replace HT := Lib.hid (bt2 HT.out hB9)
              clear hB9
              go_wp2_with fail
              all_goals first
                | (go_ret; exact ⟨rfl, HT.out⟩)
                | (exfalso; simp_all; done)
            · skip
              go_simp
              have hN := box_new wc30 (.cells #[.bool false, .int .u64 0, .int .u64 0, .int .i64 0] 28)
              have hn1 : w.heap.size + 1 < wc30.heap.size := blkF hB
              have hn2 : X1 < wc30.heap.size := blkF hX
              replace hA := blkAl hA (.cells #[.bool false, .int .u64 0, .int .u64 0, .int .i64 0] 28)
              replace hB := blkAl hB (.cells #[.bool false, .int .u64 0, .int .u64 0, .int .i64 0] 28)
              replace hX := blkAl hX (.cells #[.bool false, .int .u64 0, .int .u64 0, .int .i64 0] 28)
              replace HT := Lib.hid (HT.out.alloc HT.out.size (.cells #[.bool false, .int .u64 0, .int .u64 0, .int .i64 0] 28))
              refine hK.out _ _ ?_ (fun hHeld => ?_)
              · exact ⟨cell_blk hA 0, cell_blk hA 1, cell_blk hA 2, cell_blk hA 3, cell_blk hB 0, cell_blk hB 1, cell_blk hB 2, cell_blk hB 3⟩
              clear hK K
              (try simp only [List.getElem_toArray, List.getElem_cons_succ, List.getElem_cons_zero, Act.put, List.setIfInBounds_toArray, List.set_cons_zero, List.set_cons_succ])
              generalize (wc30.alloc (.cells #[.bool false, .int .u64 0, .int .u64 0, .int .i64 0] 28)) = wa34 at hA hB hX hN HT hHeld ⊢
              generalize wc30.heap.size = X2 at hN hn1 hn2 ⊢
              refine wpAnyH_ready (rs := [4]) (by kernel_rfl) (by simp) ?_
              refine AllReadyH.cons rfl (fun K hK => ?_) AllReadyH.nil
              go_simp
              refine (implAddFrac n0 h0 l0 d0 n1 h1 l1 d1 hp0 hq0 lp0 lq0 dp0 dq0 hp1 hq1 lp1 lq1 dp1 dq1 _).mono ?_
              rintro e wc35 ⟨rfl, hBc⟩
              rw [HE.out]
              replace hA := box_still hA hBc
              replace hB := box_still hB hBc
              replace hX := box_still hX hBc
              replace hN := box_still hN hBc
              replace HT := Lib.hid (bt2 HT.out hBc)
              clear hBc
              refine hK.out _ _ ?_ (fun hHeld => ?_)
              · exact ⟨cell_blk hA 0, cell_blk hA 1, cell_blk hA 2, cell_blk hA 3, cell_blk hB 0, cell_blk hB 1, cell_blk hB 2, cell_blk hB 3⟩
              clear hK K
              (try simp only [List.getElem_toArray, List.getElem_cons_succ, List.getElem_cons_zero, Act.put, List.setIfInBounds_toArray, List.set_cons_zero, List.set_cons_succ])
              refine wpAnyH_take (i := 5) (oi := ?o35) (v := ?v35) ?hi35 ?hs35 ?hf35 ?hr35 ?hQ35 ?hy35 ?hS35 ?rest35
              case hi35 => rfl
              case hs35 => kernel_rfl
              case hf35 => kernel_rfl
              case hr35 => kernel_rfl
              case hQ35 => exact fun _ _ _ h => h
              case hS35 => assumption
              case hy35 =>
                refine Or.inl ⟨by kernel_rfl, ?_⟩
                intro w' hSw
                (try dsimp only at hSw)
                go_simp
                (try rfl)
              (try simp only [List.getElem_toArray, List.getElem_cons_succ, List.getElem_cons_zero, Act.put, List.setIfInBounds_toArray, List.set_cons_zero, List.set_cons_succ])
              refine wpAnyH_take (i := 6) (oi := ?o36) (v := ?v36) ?hi36 ?hs36 ?hf36 ?hr36 ?hQ36 ?hy36 ?hS36 ?rest36
              case hi36 => rfl
              case hs36 => kernel_rfl
              case hf36 => kernel_rfl
              case hr36 => kernel_rfl
              case hQ36 => exact fun _ _ _ h => h
              case hS36 => assumption
              case hy36 =>
                refine Or.inl ⟨by kernel_rfl, ?_⟩
                intro w' hSw
                (try dsimp only at hSw)
                go_simp
                (try rfl)
              (try simp only [List.getElem_toArray, List.getElem_cons_succ, List.getElem_cons_zero, Act.put, List.setIfInBounds_toArray, List.set_cons_zero, List.set_cons_succ])
              refine wpAnyH_take (i := 7) (oi := ?o37) (v := ?v37) ?hi37 ?hs37 ?hf37 ?hr37 ?hQ37 ?hy37 ?hS37 ?rest37
              case hi37 => rfl
              case hs37 => kernel_rfl
              case hf37 => kernel_rfl
              case hr37 => kernel_rfl
              case hQ37 => exact fun _ _ _ h => h
              case hS37 => assumption
              case hy37 =>
                refine Or.inl ⟨by kernel_rfl, ?_⟩
                intro w' hSw
                (try dsimp only at hSw)
                go_simp
                (try rfl)
              (try simp only [List.getElem_toArray, List.getElem_cons_succ, List.getElem_cons_zero, Act.put, List.setIfInBounds_toArray, List.set_cons_zero, List.set_cons_succ])
              have cN0 : wc35.cell? ⟨X2, 0, none⟩ = some (.bool false) := cell_blk hN 0
              have cN1 : wc35.cell? ⟨X2, 1, none⟩ = some (.int .u64 0) := cell_blk hN 1
              have cN2 : wc35.cell? ⟨X2, 2, none⟩ = some (.int .u64 0) := cell_blk hN 2
              have cN3 : wc35.cell? ⟨X2, 3, none⟩ = some (.int .i64 0) := cell_blk hN 3
              have fN := free_blk hN
              have lN := blkF hN
              refine wpAnyH_ready (rs := [9]) (by kernel_rfl) (by simp) ?_
              refine AllReadyH.cons rfl (fun K hK => ?_) AllReadyH.nil
              go_simp
              replace hA := (st4_blk_farF (.bool n) (.int .u64 h) (.int .u64 l) (.int .i64 k) (show X2 ≠ w.heap.size by omega)).trans hA
              replace hB := (st4_blk_farF (.bool n) (.int .u64 h) (.int .u64 l) (.int .i64 k) (show X2 ≠ w.heap.size + 1 by omega)).trans hB
              replace hX := (st4_blk_farF (.bool n) (.int .u64 h) (.int .u64 l) (.int .i64 k) (show X2 ≠ X1 by omega)).trans hX
              have hM := st4_blkF (b0 := .bool n) (b1 := .int .u64 h) (b2 := .int .u64 l) (b3 := .int .i64 k) hN
              replace HT := Lib.hid (st4_belowF (X := X2) HT.out (by omega) (.bool n) (.int .u64 h) (.int .u64 l) (.int .i64 k))
              clear hN cN0 cN1 cN2 cN3 fN lN
              refine hK.out _ _ ?_ (fun hHeld => ?_)
              · exact ⟨cell_blk hA 0, cell_blk hA 1, cell_blk hA 2, cell_blk hA 3, cell_blk hB 0, cell_blk hB 1, cell_blk hB 2, cell_blk hB 3⟩
              clear hK K
              (try simp only [List.getElem_toArray, List.getElem_cons_succ, List.getElem_cons_zero, Act.put, List.setIfInBounds_toArray, List.set_cons_zero, List.set_cons_succ])
              generalize ((((wc35.setCell ⟨X2, 0, none⟩ (.bool n)).setCell ⟨X2, 1, none⟩ (.int .u64 h)).setCell ⟨X2, 2, none⟩ (.int .u64 l)).setCell ⟨X2, 3, none⟩ (.int .i64 k)) = ws36 at hA hB hX hM HT hHeld ⊢
              refine wpAnyH_take (i := 10) (oi := ?o38) (v := ?v38) ?hi38 ?hs38 ?hf38 ?hr38 ?hQ38 ?hy38 ?hS38 ?rest38
              case hi38 => rfl
              case hs38 => kernel_rfl
              case hf38 => kernel_rfl
              case hr38 => kernel_rfl
              case hQ38 => exact fun _ _ _ h => h
              case hS38 => assumption
              case hy38 =>
                refine Or.inl ⟨by kernel_rfl, ?_⟩
                intro w' hSw
                (try dsimp only at hSw)
                go_simp
                (try rfl)
              (try simp only [List.getElem_toArray, List.getElem_cons_succ, List.getElem_cons_zero, Act.put, List.setIfInBounds_toArray, List.set_cons_zero, List.set_cons_succ])
              refine wpAnyH_done (by kernel_rfl) ?_ _
              refine NoPanic.normal ?_
              have hx1 := blkF hX
              have hx2 := blkF hM
              have cX0 : ws36.cell? ⟨X1, 0, none⟩ = some (.bool n) := cell_blk hX 0
              have cX1 : ws36.cell? ⟨X1, 1, none⟩ = some (.int .u64 h) := cell_blk hX 1
              have cX2 : ws36.cell? ⟨X1, 2, none⟩ = some (.int .u64 l) := cell_blk hX 2
              have cX3 : ws36.cell? ⟨X1, 3, none⟩ = some (.int .i64 k) := cell_blk hX 3
              have cM0 : ws36.cell? ⟨X2, 0, none⟩ = some (.bool n) := cell_blk hM 0
              have cM1 : ws36.cell? ⟨X2, 1, none⟩ = some (.int .u64 h) := cell_blk hM 1
              have cM2 : ws36.cell? ⟨X2, 2, none⟩ = some (.int .u64 l) := cell_blk hM 2
              have cM3 : ws36.cell? ⟨X2, 3, none⟩ = some (.int .i64 k) := cell_blk hM 3
              go_wp2_with fail
              refine (eqFrac_same n h l k _).mono ?_
              rintro e w9 ⟨rfl, hB9⟩
              replace HT := Lib.hid (bt2 HT.out hB9)
              clear hB9
              go_wp2_with fail
              all_goals first
                | (go_ret; exact ⟨rfl, HT.out⟩)
                | (exfalso; simp_all; done)
          · skip
            go_simp
            have hN := box_new wc29 (.cells #[.bool false, .int .u64 0, .int .u64 0, .int .i64 0] 28)
            have hn1 : w.heap.size + 1 < wc29.heap.size := blkF hB
            have hn2 : X1 < wc29.heap.size := blkF hX
            replace hA := blkAl hA (.cells #[.bool false, .int .u64 0, .int .u64 0, .int .i64 0] 28)
            replace hB := blkAl hB (.cells #[.bool false, .int .u64 0, .int .u64 0, .int .i64 0] 28)
            replace hX := blkAl hX (.cells #[.bool false, .int .u64 0, .int .u64 0, .int .i64 0] 28)
            replace HT := Lib.hid (HT.out.alloc HT.out.size (.cells #[.bool false, .int .u64 0, .int .u64 0, .int .i64 0] 28))
            refine hK.out _ _ ?_ (fun hHeld => ?_)
            · exact ⟨cell_blk hA 0, cell_blk hA 1, cell_blk hA 2, cell_blk hA 3, cell_blk hB 0, cell_blk hB 1, cell_blk hB 2, cell_blk hB 3⟩
            clear hK K
            (try simp only [List.getElem_toArray, List.getElem_cons_succ, List.getElem_cons_zero, Act.put, List.setIfInBounds_toArray, List.set_cons_zero, List.set_cons_succ])
            generalize (wc29.alloc (.cells #[.bool false, .int .u64 0, .int .u64 0, .int .i64 0] 28)) = wa37 at hA hB hX hN HT hHeld ⊢
            generalize wc29.heap.size = X2 at hN hn1 hn2 ⊢
            refine wpAnyH_ready (rs := [3]) (by kernel_rfl) (by simp) ?_
            refine AllReadyH.cons rfl (fun K hK => ?_) AllReadyH.nil
            go_simp
            refine (toFrac n1 h1 l1 d1 _).mono ?_
            rintro e wc38 ⟨rfl, hBc⟩
            replace hA := box_still hA hBc
            replace hB := box_still hB hBc
            replace hX := box_still hX hBc
            replace hN := box_still hN hBc
            replace HT := Lib.hid (bt2 HT.out hBc)
            clear hBc
            refine hK.out _ _ ?_ (fun hHeld => ?_)
            · exact ⟨cell_blk hA 0, cell_blk hA 1, cell_blk hA 2, cell_blk hA 3, cell_blk hB 0, cell_blk hB 1, cell_blk hB 2, cell_blk hB 3⟩
            clear hK K
            (try simp only [List.getElem_toArray, List.getElem_cons_succ, List.getElem_cons_zero, Act.put, List.setIfInBounds_toArray, List.set_cons_zero, List.set_cons_succ])
            refine wpAnyH_ready (rs := [4]) (by kernel_rfl) (by simp) ?_
            refine AllReadyH.cons rfl (fun K hK => ?_) AllReadyH.nil
            go_simp
            refine (implAddFrac n0 h0 l0 d0 n1 h1 l1 d1 hp0 hq0 lp0 lq0 dp0 dq0 hp1 hq1 lp1 lq1 dp1 dq1 _).mono ?_
            rintro e wc39 ⟨rfl, hBc⟩
            rw [HE.out]
            replace hA := box_still hA hBc
            replace hB := box_still hB hBc
            replace hX := box_still hX hBc
            replace hN := box_still hN hBc
            replace HT := Lib.hid (bt2 HT.out hBc)
            clear hBc
            refine hK.out _ _ ?_ (fun hHeld => ?_)
            · exact ⟨cell_blk hA 0, cell_blk hA 1, cell_blk hA 2, cell_blk hA 3, cell_blk hB 0, cell_blk hB 1, cell_blk hB 2, cell_blk hB 3⟩
            clear hK K
            (try simp only [List.getElem_toArray, List.getElem_cons_succ, List.getElem_cons_zero, Act.put, List.setIfInBounds_toArray, List.set_cons_zero, List.set_cons_succ])
            refine wpAnyH_take (i := 5) (oi := ?o39) (v := ?v39) ?hi39 ?hs39 ?hf39 ?hr39 ?hQ39 ?hy39 ?hS39 ?rest39
            case hi39 => rfl
            case hs39 => kernel_rfl
            case hf39 => kernel_rfl
            case hr39 => kernel_rfl
            case hQ39 => exact fun _ _ _ h => h
            case hS39 => assumption
            case hy39 =>
              refine Or.inl ⟨by kernel_rfl, ?_⟩
              intro w' hSw
              (try dsimp only at hSw)
              go_simp
              (try rfl)
            (try simp only [List.getElem_toArray, List.getElem_cons_succ, List.getElem_cons_zero, Act.put, List.setIfInBounds_toArray, List.set_cons_zero, List.set_cons_succ])
            refine wpAnyH_take (i := 6) (oi := ?o40) (v := ?v40) ?hi40 ?hs40 ?hf40 ?hr40 ?hQ40 ?hy40 ?hS40 ?rest40
            case hi40 => rfl
            case hs40 => kernel_rfl
            case hf40 => kernel_rfl
            case hr40 => kernel_rfl
            case hQ40 => exact fun _ _ _ h => h
            case hS40 => assumption
            case hy40 =>
              refine Or.inl ⟨by kernel_rfl, ?_⟩
              intro w' hSw
              (try dsimp only at hSw)
              go_simp
              (try rfl)
            (try simp only [List.getElem_toArray, List.getElem_cons_succ, List.getElem_cons_zero, Act.put, List.setIfInBounds_toArray, List.set_cons_zero, List.set_cons_succ])
            refine wpAnyH_take (i := 7) (oi := ?o41) (v := ?v41) ?hi41 ?hs41 ?hf41 ?hr41 ?hQ41 ?hy41 ?hS41 ?rest41
            case hi41 => rfl
            case hs41 => kernel_rfl
            case hf41 => kernel_rfl
            case hr41 => kernel_rfl
            case hQ41 => exact fun _ _ _ h => h
            case hS41 => assumption
            case hy41 =>
              refine Or.inl ⟨by kernel_rfl, ?_⟩
              intro w' hSw
              (try dsimp only at hSw)
              go_simp
              (try rfl)
            (try simp only [List.getElem_toArray, List.getElem_cons_succ, List.getElem_cons_zero, Act.put, List.setIfInBounds_toArray, List.set_cons_zero, List.set_cons_succ])
            have cN0 : wc39.cell? ⟨X2, 0, none⟩ = some (.bool false) := cell_blk hN 0
            have cN1 : wc39.cell? ⟨X2, 1, none⟩ = some (.int .u64 0) := cell_blk hN 1
            have cN2 : wc39.cell? ⟨X2, 2, none⟩ = some (.int .u64 0) := cell_blk hN 2
            have cN3 : wc39.cell? ⟨X2, 3, none⟩ = some (.int .i64 0) := cell_blk hN 3
            have fN := free_blk hN
            have lN := blkF hN
            refine wpAnyH_ready (rs := [9]) (by kernel_rfl) (by simp) ?_
            refine AllReadyH.cons rfl (fun K hK => ?_) AllReadyH.nil
            go_simp
            replace hA := (st4_blk_farF (.bool n) (.int .u64 h) (.int .u64 l) (.int .i64 k) (show X2 ≠ w.heap.size by omega)).trans hA
            replace hB := (st4_blk_farF (.bool n) (.int .u64 h) (.int .u64 l) (.int .i64 k) (show X2 ≠ w.heap.size + 1 by omega)).trans hB
            replace hX := (st4_blk_farF (.bool n) (.int .u64 h) (.int .u64 l) (.int .i64 k) (show X2 ≠ X1 by omega)).trans hX
            have hM := st4_blkF (b0 := .bool n) (b1 := .int .u64 h) (b2 := .int .u64 l) (b3 := .int .i64 k) hN
            replace HT := Lib.hid (st4_belowF (X := X2) HT.out (by omega) (.bool n) (.int .u64 h) (.int .u64 l) (.int .i64 k))
            clear hN cN0 cN1 cN2 cN3 fN lN
            refine hK.out _ _ ?_ (fun hHeld => ?_)
            · exact ⟨cell_blk hA 0, cell_blk hA 1, cell_blk hA 2, cell_blk hA 3, cell_blk hB 0, cell_blk hB 1, cell_blk hB 2, cell_blk hB 3⟩
            clear hK K
            (try simp only [List.getElem_toArray, List.getElem_cons_succ, List.getElem_cons_zero, Act.put, List.setIfInBounds_toArray, List.set_cons_zero, List.set_cons_succ])
            generalize ((((wc39.setCell ⟨X2, 0, none⟩ (.bool n)).setCell ⟨X2, 1, none⟩ (.int .u64 h)).setCell ⟨X2, 2, none⟩ (.int .u64 l)).setCell ⟨X2, 3, none⟩ (.int .i64 k)) = ws40 at hA hB hX hM HT hHeld ⊢
            refine wpAnyH_take (i := 10) (oi := ?o42) (v := ?v42) ?hi42 ?hs42 ?hf42 ?hr42 ?hQ42 ?hy42 ?hS42 ?rest42
            case hi42 => rfl
            case hs42 => kernel_rfl
            case hf42 => kernel_rfl
            case hr42 => kernel_rfl
            case hQ42 => exact fun _ _ _ h => h
            case hS42 => assumption
            case hy42 =>
              refine Or.inl ⟨by kernel_rfl, ?_⟩
              intro w' hSw
              (try dsimp only at hSw)
              go_simp
              (try rfl)
            (try simp only [List.getElem_toArray, List.getElem_cons_succ, List.getElem_cons_zero, Act.put, List.setIfInBounds_toArray, List.set_cons_zero, List.set_cons_succ])
            refine wpAnyH_done (by kernel_rfl) ?_ _
            refine NoPanic.normal ?_
            have hx1 := blkF hX
            have hx2 := blkF hM
            have cX0 : ws40.cell? ⟨X1, 0, none⟩ = some (.bool n) := cell_blk hX 0
            have cX1 : ws40.cell? ⟨X1, 1, none⟩ = some (.int .u64 h) := cell_blk hX 1
            have cX2 : ws40.cell? ⟨X1, 2, none⟩ = some (.int .u64 l) := cell_blk hX 2
            have cX3 : ws40.cell? ⟨X1, 3, none⟩ = some (.int .i64 k) := cell_blk hX 3
            have cM0 : ws40.cell? ⟨X2, 0, none⟩ = some (.bool n) := cell_blk hM 0
            have cM1 : ws40.cell? ⟨X2, 1, none⟩ = some (.int .u64 h) := cell_blk hM 1
            have cM2 : ws40.cell? ⟨X2, 2, none⟩ = some (.int .u64 l) := cell_blk hM 2
            have cM3 : ws40.cell? ⟨X2, 3, none⟩ = some (.int .i64 k) := cell_blk hM 3
            go_wp2_with fail
            refine (eqFrac_same n h l k _).mono ?_
            rintro e w9 ⟨rfl, hB9⟩
            replace HT := Lib.hid (bt2 HT.out hB9)
            clear hB9
            go_wp2_with fail
            all_goals first
              | (go_ret; exact ⟨rfl, HT.out⟩)
              | (exfalso; simp_all; done)
        · skip
          go_simp
          have hN := box_new wd28 (.cells #[.bool false, .int .u64 0, .int .u64 0, .int .i64 0] 28)
          have hn1 : w.heap.size + 1 < wd28.heap.size := blkF hB
          have hn2 : X1 < wd28.heap.size := blkF hX
          replace hA := blkAl hA (.cells #[.bool false, .int .u64 0, .int .u64 0, .int .i64 0] 28)
          replace hB := blkAl hB (.cells #[.bool false, .int .u64 0, .int .u64 0, .int .i64 0] 28)
          replace hX := blkAl hX (.cells #[.bool false, .int .u64 0, .int .u64 0, .int .i64 0] 28)
          replace HT := Lib.hid (HT.out.alloc HT.out.size (.cells #[.bool false, .int .u64 0, .int .u64 0, .int .i64 0] 28))
          refine hK.out _ _ ?_ (fun hHeld => ?_)
          · exact ⟨cell_blk hA 0, cell_blk hA 1, cell_blk hA 2, cell_blk hA 3, cell_blk hB 0, cell_blk hB 1, cell_blk hB 2, cell_blk hB 3⟩
          clear hK K
          (try simp only [List.getElem_toArray, List.getElem_cons_succ, List.getElem_cons_zero, Act.put, List.setIfInBounds_toArray, List.set_cons_zero, List.set_cons_succ])
          generalize (wd28.alloc (.cells #[.bool false, .int .u64 0, .int .u64 0, .int .i64 0] 28)) = wa41 at hA hB hX hN HT hHeld ⊢
          generalize wd28.heap.size = X2 at hN hn1 hn2 ⊢
          refine wpAnyH_ready (rs := [1]) (by kernel_rfl) (by simp) ?_
          refine AllReadyH.cons rfl (fun K hK => ?_) AllReadyH.nil
          go_simp
          refine (toFrac n0 h0 l0 d0 _).mono ?_
          rintro e wc42 ⟨rfl, hBc⟩
          replace hA := box_still hA hBc
          replace hB := box_still hB hBc
          replace hX := box_still hX hBc
          replace hN := box_still hN hBc
          replace HT := Lib.hid (bt2 HT.out hBc)
          clear hBc
          refine hK.out _ _ ?_ (fun hHeld => ?_)
          · exact ⟨cell_blk hA 0, cell_blk hA 1, cell_blk hA 2, cell_blk hA 3, cell_blk hB 0, cell_blk hB 1, cell_blk hB 2, cell_blk hB 3⟩
          clear hK K
          (try simp only [List.getElem_toArray, List.getElem_cons_succ, List.getElem_cons_zero, Act.put, List.setIfInBounds_toArray, List.set_cons_zero, List.set_cons_succ])
          refine wpAnyH_ready (rs := [3]) (by kernel_rfl) (by simp) ?_
          refine AllReadyH.cons rfl (fun K hK => ?_) AllReadyH.nil
          go_simp
          refine (toFrac n1 h1 l1 d1 _).mono ?_
          rintro e wc43 ⟨rfl, hBc⟩
          replace hA := box_still hA hBc
          replace hB := box_still hB hBc
          replace hX := box_still hX hBc
          replace hN := box_still hN hBc
          replace HT := Lib.hid (bt2 HT.out hBc)
          clear hBc
          refine hK.out _ _ ?_ (fun hHeld => ?_)
          · exact ⟨cell_blk hA 0, cell_blk hA 1, cell_blk hA 2, cell_blk hA 3, cell_blk hB 0, cell_blk hB 1, cell_blk hB 2, cell_blk hB 3⟩
          clear hK K
          (try simp only [List.getElem_toArray, List.getElem_cons_succ, List.getElem_cons_zero, Act.put, List.setIfInBounds_toArray, List.set_cons_zero, List.set_cons_succ])
          refine wpAnyH_ready (rs := [4]) (by kernel_rfl) (by simp) ?_
          refine AllReadyH.cons rfl (fun K hK => ?_) AllReadyH.nil
          go_simp
          refine (implAddFrac n0 h0 l0 d0 n1 h1 l1 d1 hp0 hq0 lp0 lq0 dp0 dq0 hp1 hq1 lp1 lq1 dp1 dq1 _).mono ?_
          rintro e wc44 ⟨rfl, hBc⟩
          rw [HE.out]
          replace hA := box_still hA hBc
          replace hB := box_still hB hBc
          replace hX := box_still hX hBc
          replace hN := box_still hN hBc
          replace HT := Lib.hid (bt2 HT.out hBc)
          clear hBc
          refine hK.out _ _ ?_ (fun hHeld => ?_)
          · exact ⟨cell_blk hA 0, cell_blk hA 1, cell_blk hA 2, cell_blk hA 3, cell_blk hB 0, cell_blk hB 1, cell_blk hB 2, cell_blk hB 3⟩
          clear hK K
          (try simp only [List.getElem_toArray, List.getElem_cons_succ, List.getElem_cons_zero, Act.put, List.setIfInBounds_toArray, List.set_cons_zero, List.set_cons_succ])
          refine wpAnyH_take (i := 5) (oi := ?o43) (v := ?v43) ?hi43 ?hs43 ?hf43 ?hr43 ?hQ43 ?hy43 ?hS43 ?rest43
          case hi43 => rfl
          case hs43 => kernel_rfl
          case hf43 => kernel_rfl
          case hr43 => kernel_rfl
          case hQ43 => exact fun _ _ _ h => h
          case hS43 => assumption
          case hy43 =>
            refine Or.inl ⟨by kernel_rfl, ?_⟩
            intro w' hSw
            (try dsimp only at hSw)
            go_simp
            (try rfl)
          (try simp only [List.getElem_toArray, List.getElem_cons_succ, List.getElem_cons_zero, Act.put, List.setIfInBounds_toArray, List.set_cons_zero, List.set_cons_succ])
          refine wpAnyH_take (i := 6) (oi := ?o44) (v := ?v44) ?hi44 ?hs44 ?hf44 ?hr44 ?hQ44 ?hy44 ?hS44 ?rest44
          case hi44 => rfl
          case hs44 => kernel_rfl
          case hf44 => kernel_rfl
          case hr44 => kernel_rfl
          case hQ44 => exact fun _ _ _ h => h
          case hS44 => assumption
          case hy44 =>
            refine Or.inl ⟨by kernel_rfl, ?_⟩
            intro w' hSw
            (try dsimp only at hSw)
            go_simp
            (try rfl)
          (try simp only [List.getElem_toArray, List.getElem_cons_succ, List.getElem_cons_zero, Act.put, List.setIfInBounds_toArray, List.set_cons_zero, List.set_cons_succ])
          refine wpAnyH_take (i := 7) (oi := ?o45) (v := ?v45) ?hi45 ?hs45 ?hf45 ?hr45 ?hQ45 ?hy45 ?hS45 ?rest45
          case hi45 => rfl
          case hs45 => kernel_rfl
          case hf45 => kernel_rfl
          case hr45 => kernel_rfl
          case hQ45 => exact fun _ _ _ h => h
          case hS45 => assumption
          case hy45 =>
            refine Or.inl ⟨by kernel_rfl, ?_⟩
            intro w' hSw
            (try dsimp only at hSw)
            go_simp
            (try rfl)
          (try simp only [List.getElem_toArray, List.getElem_cons_succ, List.getElem_cons_zero, Act.put, List.setIfInBounds_toArray, List.set_cons_zero, List.set_cons_succ])
          have cN0 : wc44.cell? ⟨X2, 0, none⟩ = some (.bool false) := cell_blk hN 0
          have cN1 : wc44.cell? ⟨X2, 1, none⟩ = some (.int .u64 0) := cell_blk hN 1
          have cN2 : wc44.cell? ⟨X2, 2, none⟩ = some (.int .u64 0) := cell_blk hN 2
          have cN3 : wc44.cell? ⟨X2, 3, none⟩ = some (.int .i64 0) := cell_blk hN 3
          have fN := free_blk hN
          have lN := blkF hN
          refine wpAnyH_ready (rs := [9]) (by kernel_rfl) (by simp) ?_
          refine AllReadyH.cons rfl (fun K hK => ?_) AllReadyH.nil
          go_simp
          replace hA := (st4_blk_farF (.bool n) (.int .u64 h) (.int .u64 l) (.int .i64 k) (show X2 ≠ w.heap.size by omega)).trans hA
          replace hB := (st4_blk_farF (.bool n) (.int .u64 h) (.int .u64 l) (.int .i64 k) (show X2 ≠ w.heap.size + 1 by omega)).trans hB
          replace hX := (st4_blk_farF (.bool n) (.int .u64 h) (.int .u64 l) (.int .i64 k) (show X2 ≠ X1 by omega)).trans hX
          have hM := st4_blkF (b0 := .bool n) (b1 := .int .u64 h) (b2 := .int .u64 l) (b3 := .int .i64 k) hN
          replace HT := Lib.hid (st4_belowF (X := X2) HT.out (by omega) (.bool n) (.int .u64 h) (.int .u64 l) (.int .i64 k))
          clear hN cN0 cN1 cN2 cN3 fN lN
          refine hK.out _ _ ?_ (fun hHeld => ?_)
          · exact ⟨cell_blk hA 0, cell_blk hA 1, cell_blk hA 2, cell_blk hA 3, cell_blk hB 0, cell_blk hB 1, cell_blk hB 2, cell_blk hB 3⟩
          clear hK K
          (try simp only [List.getElem_toArray, List.getElem_cons_succ, List.getElem_cons_zero, Act.put, List.setIfInBounds_toArray, List.set_cons_zero, List.set_cons_succ])
          generalize ((((wc44.setCell ⟨X2, 0, none⟩ (.bool n)).setCell ⟨X2, 1, none⟩ (.int .u64 h)).setCell ⟨X2, 2, none⟩ (.int .u64 l)).setCell ⟨X2, 3, none⟩ (.int .i64 k)) = ws45 at hA hB hX hM HT hHeld ⊢
          refine wpAnyH_take (i := 10) (oi := ?o46) (v := ?v46) ?hi46 ?hs46 ?hf46 ?hr46 ?hQ46 ?hy46 ?hS46 ?rest46
          case hi46 => rfl
          case hs46 => kernel_rfl
          case hf46 => kernel_rfl
          case hr46 => kernel_rfl
          case hQ46 => exact fun _ _ _ h => h
          case hS46 => assumption
          case hy46 =>
            refine Or.inl ⟨by kernel_rfl, ?_⟩
            intro w' hSw
            (try dsimp only at hSw)
            go_simp
            (try rfl)
          (try simp only [List.getElem_toArray, List.getElem_cons_succ, List.getElem_cons_zero, Act.put, List.setIfInBounds_toArray, List.set_cons_zero, List.set_cons_succ])
          refine wpAnyH_done (by kernel_rfl) ?_ _
          refine NoPanic.normal ?_
          have hx1 := blkF hX
          have hx2 := blkF hM
          have cX0 : ws45.cell? ⟨X1, 0, none⟩ = some (.bool n) := cell_blk hX 0
          have cX1 : ws45.cell? ⟨X1, 1, none⟩ = some (.int .u64 h) := cell_blk hX 1
          have cX2 : ws45.cell? ⟨X1, 2, none⟩ = some (.int .u64 l) := cell_blk hX 2
          have cX3 : ws45.cell? ⟨X1, 3, none⟩ = some (.int .i64 k) := cell_blk hX 3
          have cM0 : ws45.cell? ⟨X2, 0, none⟩ = some (.bool n) := cell_blk hM 0
          have cM1 : ws45.cell? ⟨X2, 1, none⟩ = some (.int .u64 h) := cell_blk hM 1
          have cM2 : ws45.cell? ⟨X2, 2, none⟩ = some (.int .u64 l) := cell_blk hM 2
          have cM3 : ws45.cell? ⟨X2, 3, none⟩ = some (.int .i64 k) := cell_blk hM 3
          go_wp2_with fail
          refine (eqFrac_same n h l k _).mono ?_
          rintro e w9 ⟨rfl, hB9⟩
          replace HT := Lib.hid (bt2 HT.out hB9)
          clear hB9
          go_wp2_with fail
          all_goals first
            | (go_ret; exact ⟨rfl, HT.out⟩)
            | (exfalso; simp_all; done)
    · skip
      go_simp
      have hN := box_new wc2 (.cells #[.bool false, .int .u64 0, .int .u64 0, .int .i64 0] 28)
      have hn1 : w.heap.size + 1 < wc2.heap.size := blkF hB
      replace hA := blkAl hA (.cells #[.bool false, .int .u64 0, .int .u64 0, .int .i64 0] 28)
      replace hB := blkAl hB (.cells #[.bool false, .int .u64 0, .int .u64 0, .int .i64 0] 28)
      replace HT := Lib.hid (HT.out.alloc HT.out.size (.cells #[.bool false, .int .u64 0, .int .u64 0, .int .i64 0] 28))
      refine hK.out _ _ ?_ (fun hHeld => ?_)
      · exact ⟨cell_blk hA 0, cell_blk hA 1, cell_blk hA 2, cell_blk hA 3, cell_blk hB 0, cell_blk hB 1, cell_blk hB 2, cell_blk hB 3⟩
      clear hK K
      (try simp only [List.getElem_toArray, List.getElem_cons_succ, List.getElem_cons_zero, Act.put, List.setIfInBounds_toArray, List.set_cons_zero, List.set_cons_succ])
      generalize (wc2.alloc (.cells #[.bool false, .int .u64 0, .int .u64 0, .int .i64 0] 28)) = wa46 at hA hB hN HT hHeld ⊢
      generalize wc2.heap.size = X1 at hN hn1 ⊢
      refine wpAnyH_ready (rs := [3]) (by kernel_rfl) (by simp) ?_
      refine AllReadyH.cons rfl (fun K hK => ?_) AllReadyH.nil
      go_simp
      refine (toFrac n1 h1 l1 d1 _).mono ?_
      rintro e wc47 ⟨rfl, hBc⟩
      replace hA := box_still hA hBc
      replace hB := box_still hB hBc
      replace hN := box_still hN hBc
      replace HT := Lib.hid (bt2 HT.out hBc)
      clear hBc
      refine hK.out _ _ ?_ (fun hHeld => ?_)
      · exact ⟨cell_blk hA 0, cell_blk hA 1, cell_blk hA 2, cell_blk hA 3, cell_blk hB 0, cell_blk hB 1, cell_blk hB 2, cell_blk hB 3⟩
      clear hK K
      (try simp only [List.getElem_toArray, List.getElem_cons_succ, List.getElem_cons_zero, Act.put, List.setIfInBounds_toArray, List.set_cons_zero, List.set_cons_succ])
      refine wpAnyH_ready (rs := [4]) (by kernel_rfl) (by simp) ?_
      refine AllReadyH.cons rfl (fun K hK => ?_) AllReadyH.nil
      go_simp
      refine (specAddFrac n0 h0 l0 d0 n1 h1 l1 d1 hp0 hq0 lp0 lq0 dp0 dq0 hp1 hq1 lp1 lq1 dp1 dq1 _).mono ?_
      rintro e wc48 ⟨rfl, hBc⟩
      rw [HE.out]
      replace hA := box_still hA hBc
      replace hB := box_still hB hBc
      replace hN := box_still hN hBc
      replace HT := Lib.hid (bt2 HT.out hBc)
      clear hBc
      refine hK.out _ _ ?_ (fun hHeld => ?_)
      · exact ⟨cell_blk hA 0, cell_blk hA 1, cell_blk hA 2, cell_blk hA 3, cell_blk hB 0, cell_blk hB 1, cell_blk hB 2, cell_blk hB 3⟩
      clear hK K
      (try simp only [List.getElem_toArray, List.getElem_cons_succ, List.getElem_cons_zero, Act.put, List.setIfInBounds_toArray, List.set_cons_zero, List.set_cons_succ])
      refine wpAnyH_take (i := 5) (oi := ?o47) (v := ?v47) ?hi47 ?hs47 ?hf47 ?hr47 ?hQ47 ?hy47 ?hS47 ?rest47
      case hi47 => rfl
      case hs47 => kernel_rfl
      case hf47 => kernel_rfl
      case hr47 => kernel_rfl
      case hQ47 => exact fun _ _ _ h => h
      case hS47 => assumption
      case hy47 =>
        refine Or.inl ⟨by kernel_rfl, ?_⟩
        intro w' hSw
        (try dsimp only at hSw)
        go_simp
        (try rfl)
      (try simp only [List.getElem_toArray, List.getElem_cons_succ, List.getElem_cons_zero, Act.put, List.setIfInBounds_toArray, List.set_cons_zero, List.set_cons_succ])
      refine wpAnyH_take (i := 6) (oi := ?o48) (v := ?v48) ?hi48 ?hs48 ?hf48 ?hr48 ?hQ48 ?hy48 ?hS48 ?rest48
      case hi48 => rfl
      case hs48 => kernel_rfl
      case hf48 => kernel_rfl
      case hr48 => kernel_rfl
      case hQ48 => exact fun _ _ _ h => h
      case hS48 => assumption
      case hy48 =>
        refine Or.inl ⟨by kernel_rfl, ?_⟩
        intro w' hSw
        (try dsimp only at hSw)
        go_simp
        (try rfl)
      (try simp only [List.getElem_toArray, List.getElem_cons_succ, List.getElem_cons_zero, Act.put, List.setIfInBounds_toArray, List.set_cons_zero, List.set_cons_succ])
      refine wpAnyH_take (i := 7) (oi := ?o49) (v := ?v49) ?hi49 ?hs49 ?hf49 ?hr49 ?hQ49 ?hy49 ?hS49 ?rest49
      case hi49 => rfl
      case hs49 => kernel_rfl
      case hf49 => kernel_rfl
      case hr49 => kernel_rfl
      case hQ49 => exact fun _ _ _ h => h
      case hS49 => assumption
      case hy49 =>
        refine Or.inl ⟨by kernel_rfl, ?_⟩
        intro w' hSw
        (try dsimp only at hSw)
        go_simp
        (try rfl)
      (try simp only [List.getElem_toArray, List.getElem_cons_succ, List.getElem_cons_zero, Act.put, List.setIfInBounds_toArray, List.set_cons_zero, List.set_cons_succ])
      have cN0 : wc48.cell? ⟨X1, 0, none⟩ = some (.bool false) := cell_blk hN 0
      have cN1 : wc48.cell? ⟨X1, 1, none⟩ = some (.int .u64 0) := cell_blk hN 1
      have cN2 : wc48.cell? ⟨X1, 2, none⟩ = some (.int .u64 0) := cell_blk hN 2
      have cN3 : wc48.cell? ⟨X1, 3, none⟩ = some (.int .i64 0) := cell_blk hN 3
      have fN := free_blk hN
      have lN := blkF hN
      refine wpAnyH_ready (rs := [9]) (by kernel_rfl) (by simp) ?_
      refine AllReadyH.cons rfl (fun K hK => ?_) AllReadyH.nil
      go_simp
      replace hA := (st4_blk_farF (.bool n) (.int .u64 h) (.int .u64 l) (.int .i64 k) (show X1 ≠ w.heap.size by omega)).trans hA
      replace hB := (st4_blk_farF (.bool n) (.int .u64 h) (.int .u64 l) (.int .i64 k) (show X1 ≠ w.heap.size + 1 by omega)).trans hB
      have hM := st4_blkF (b0 := .bool n) (b1 := .int .u64 h) (b2 := .int .u64 l) (b3 := .int .i64 k) hN
      replace HT := Lib.hid (st4_belowF (X := X1) HT.out (by omega) (.bool n) (.int .u64 h) (.int .u64 l) (.int .i64 k))
      clear hN cN0 cN1 cN2 cN3 fN lN
      refine hK.out _ _ ?_ (fun hHeld => ?_)
      · exact ⟨cell_blk hA 0, cell_blk hA 1, cell_blk hA 2, cell_blk hA 3, cell_blk hB 0, cell_blk hB 1, cell_blk hB 2, cell_blk hB 3⟩
      clear hK K
      (try simp only [List.getElem_toArray, List.getElem_cons_succ, List.getElem_cons_zero, Act.put, List.setIfInBounds_toArray, List.set_cons_zero, List.set_cons_succ])
      generalize ((((wc48.setCell ⟨X1, 0, none⟩ (.bool n)).setCell ⟨X1, 1, none⟩ (.int .u64 h)).setCell ⟨X1, 2, none⟩ (.int .u64 l)).setCell ⟨X1, 3, none⟩ (.int .i64 k)) = ws49 at hA hB hM HT hHeld ⊢
      refine wpAnyH_take (i := 10) (oi := ?o50) (v := ?v50) ?hi50 ?hs50 ?hf50 ?hr50 ?hQ50 ?hy50 ?hS50 ?rest50
      case hi50 => rfl
      case hs50 => kernel_rfl
      case hf50 => kernel_rfl
      case hr50 => kernel_rfl
      case hQ50 => exact fun _ _ _ h => h
      case hS50 => assumption
      case hy50 =>
        refine Or.inl ⟨by kernel_rfl, ?_⟩
        intro w' hSw
        (try dsimp only at hSw)
        go_simp
        (try rfl)
      (try simp only [List.getElem_toArray, List.getElem_cons_succ, List.getElem_cons_zero, Act.put, List.setIfInBounds_toArray, List.set_cons_zero, List.set_cons_succ])
      refine wpAnyH_done (by kernel_rfl) ?_ _
      refine NoPanic.normal ?_
      have hX := hM
      clear hM
      go_wp2_with fail
      have hDD : ws49.drew.cell? ⟨w.heap.size, 0, none⟩ = some (.bool n0) ∧ ws49.drew.cell? ⟨w.heap.size, 1, none⟩ = some (.int .u64 h0) ∧ ws49.drew.cell? ⟨w.heap.size, 2, none⟩ = some (.int .u64 l0) ∧ ws49.drew.cell? ⟨w.heap.size, 3, none⟩ = some (.int .i64 d0) ∧ ws49.drew.cell? ⟨w.heap.size + 1, 0, none⟩ = some (.bool n1) ∧ ws49.drew.cell? ⟨w.heap.size + 1, 1, none⟩ = some (.int .u64 h1) ∧ ws49.drew.cell? ⟨w.heap.size + 1, 2, none⟩ = some (.int .u64 l1) ∧ ws49.drew.cell? ⟨w.heap.size + 1, 3, none⟩ = some (.int .i64 d1) := ⟨cell_blk (w := ws49) hA 0, cell_blk (w := ws49) hA 1, cell_blk (w := ws49) hA 2, cell_blk (w := ws49) hA 3, cell_blk (w := ws49) hB 0, cell_blk (w := ws49) hB 1, cell_blk (w := ws49) hB 2, cell_blk (w := ws49) hB 3⟩
      refine wp_region_noPanic ?_
      refine wp_region_held_drew (S := (fun w' => w'.cell? ⟨w.heap.size, 0, none⟩ = some (.bool n0) ∧ w'.cell? ⟨w.heap.size, 1, none⟩ = some (.int .u64 h0) ∧ w'.cell? ⟨w.heap.size, 2, none⟩ = some (.int .u64 l0) ∧ w'.cell? ⟨w.heap.size, 3, none⟩ = some (.int .i64 d0) ∧ w'.cell? ⟨w.heap.size + 1, 0, none⟩ = some (.bool n1) ∧ w'.cell? ⟨w.heap.size + 1, 1, none⟩ = some (.int .u64 h1) ∧ w'.cell? ⟨w.heap.size + 1, 2, none⟩ = some (.int .u64 l1) ∧ w'.cell? ⟨w.heap.size + 1, 3, none⟩ = some (.int .i64 d1))) (by kernel_rfl) hDD (fun hHeld => ?_)
      clear hDD
      replace hA : ws49.drew.heap[w.heap.size]? = _ := hA
      replace hB : ws49.drew.heap[w.heap.size + 1]? = _ := hB
      replace hX : ws49.drew.heap[X1]? = _ := hX
      replace HT : Hid (Below w.heap.size w ws49.drew) := Lib.hid (Below.drew HT.out)
      generalize ws49.drew = wd50 at hA hB hX HT hHeld ⊢
      refine wpAnyH_take (i := 0) (oi := ?o51) (v := ?v51) ?hi51 ?hs51 ?hf51 ?hr51 ?hQ51 ?hy51 ?hS51 ?rest51
      case hi51 => rfl
      case hs51 => kernel_rfl
      case hf51 => kernel_rfl
      case hr51 => kernel_rfl
      case hQ51 => exact fun _ _ _ h => h
      case hS51 => assumption
      case hy51 =>
        refine Or.inl ⟨by kernel_rfl, ?_⟩
        intro w' hSw
        (try dsimp only at hSw)
        go_simp
        (try rfl)
      (try simp only [List.getElem_toArray, List.getElem_cons_zero, Act.put, List.setIfInBounds_toArray, List.set_cons_zero, List.set_cons_succ])
      refine wpAnyH_take (i := 2) (oi := ?o52) (v := ?v52) ?hi52 ?hs52 ?hf52 ?hr52 ?hQ52 ?hy52 ?hS52 ?rest52
      case hi52 => rfl
      case hs52 => kernel_rfl
      case hf52 => kernel_rfl
      case hr52 => kernel_rfl
      case hQ52 => exact fun _ _ _ h => h
      case hS52 => assumption
      case hy52 =>
        refine Or.inl ⟨by kernel_rfl, ?_⟩
        intro w' hSw
        (try dsimp only at hSw)
        go_simp
        (try rfl)
      (try simp only [List.getElem_toArray, List.getElem_cons_succ, List.getElem_cons_zero, Act.put, List.setIfInBounds_toArray, List.set_cons_zero, List.set_cons_succ])
      refine wpAnyH_ready (rs := [1, 8]) (by kernel_rfl) (by simp) ?_
      refine AllReadyH.cons rfl (fun K hK => ?_) (AllReadyH.cons rfl (fun K hK => ?_) AllReadyH.nil)
      · skip
        go_simp
        refine (toFrac n0 h0 l0 d0 _).mono ?_
        rintro e wc51 ⟨rfl, hBc⟩
        replace hA := box_still hA hBc
        replace hB := box_still hB hBc
        replace hX := box_still hX hBc
        replace HT := Lib.hid (bt2 HT.out hBc)
        clear hBc
        refine hK.out _ _ ?_ (fun hHeld => ?_)
        · exact ⟨cell_blk hA 0, cell_blk hA 1, cell_blk hA 2, cell_blk hA 3, cell_blk hB 0, cell_blk hB 1, cell_blk hB 2, cell_blk hB 3⟩
        clear hK K
        (try simp only [List.getElem_toArray, List.getElem_cons_succ, List.getElem_cons_zero, Act.put, List.setIfInBounds_toArray, List.set_cons_zero, List.set_cons_succ])
        refine wpAnyH_ready (rs := [3, 8]) (by kernel_rfl) (by simp) ?_
        refine AllReadyH.cons rfl (fun K hK => ?_) (AllReadyH.cons rfl (fun K hK => ?_) AllReadyH.nil)
        · skip
          go_simp
          refine (toFrac n1 h1 l1 d1 _).mono ?_
          rintro e wc52 ⟨rfl, hBc⟩
          replace hA := box_still hA hBc
          replace hB := box_still hB hBc
          replace hX := box_still hX hBc
          replace HT := Lib.hid (bt2 HT.out hBc)
          clear hBc
          refine hK.out _ _ ?_ (fun hHeld => ?_)
          · exact ⟨cell_blk hA 0, cell_blk hA 1, cell_blk hA 2, cell_blk hA 3, cell_blk hB 0, cell_blk hB 1, cell_blk hB 2, cell_blk hB 3⟩
          clear hK K
          (try simp only [List.getElem_toArray, List.getElem_cons_succ, List.getElem_cons_zero, Act.put, List.setIfInBounds_toArray, List.set_cons_zero, List.set_cons_succ])
          refine wpAnyH_ready (rs := [4, 8]) (by kernel_rfl) (by simp) ?_
          refine AllReadyH.cons rfl (fun K hK => ?_) (AllReadyH.cons rfl (fun K hK => ?_) AllReadyH.nil)
          · skip
            go_simp
            refine (implAddFrac n0 h0 l0 d0 n1 h1 l1 d1 hp0 hq0 lp0 lq0 dp0 dq0 hp1 hq1 lp1 lq1 dp1 dq1 _).mono ?_
            rintro e wc53 ⟨rfl, hBc⟩
            rw [HE.out]
            replace hA := box_still hA hBc
            replace hB := box_still hB hBc
            replace hX := box_still hX hBc
            replace HT := Lib.hid (bt2 HT.out hBc)
            clear hBc
            refine hK.out _ _ ?_ (fun hHeld => ?_)
            · exact ⟨cell_blk hA 0, cell_blk hA 1, cell_blk hA 2, cell_blk hA 3, cell_blk hB 0, cell_blk hB 1, cell_blk hB 2, cell_blk hB 3⟩
            clear hK K
            (try simp only [List.getElem_toArray, List.getElem_cons_succ, List.getElem_cons_zero, Act.put, List.setIfInBounds_toArray, List.set_cons_zero, List.set_cons_succ])
            refine wpAnyH_take (i := 5) (oi := ?o53) (v := ?v53) ?hi53 ?hs53 ?hf53 ?hr53 ?hQ53 ?hy53 ?hS53 ?rest53
            case hi53 => rfl
            case hs53 => kernel_rfl
            case hf53 => kernel_rfl
            case hr53 => kernel_rfl
            case hQ53 => exact fun _ _ _ h => h
            case hS53 => assumption
            case hy53 =>
              refine Or.inl ⟨by kernel_rfl, ?_⟩
              intro w' hSw
              (try dsimp only at hSw)
              go_simp
              (try rfl)
            (try simp only [List.getElem_toArray, List.getElem_cons_succ, List.getElem_cons_zero, Act.put, List.setIfInBounds_toArray, List.set_cons_zero, List.set_cons_succ])
            refine wpAnyH_take (i := 6) (oi := ?o54) (v := ?v54) ?hi54 ?hs54 ?hf54 ?hr54 ?hQ54 ?hy54 ?hS54 ?rest54
            case hi54 => rfl
            case hs54 => kernel_rfl
            case hf54 => kernel_rfl
            case hr54 => kernel_rfl
            case hQ54 => exact fun _ _ _ h => h
            case hS54 => assumption
            case hy54 =>
              refine Or.inl ⟨by kernel_rfl, ?_⟩
              intro w' hSw
              (try dsimp only at hSw)
              go_simp
              (try rfl)
            (try simp only [List.getElem_toArray, List.getElem_cons_succ, List.getElem_cons_zero, Act.put, List.setIfInBounds_toArray, List.set_cons_zero, List.set_cons_succ])
            refine wpAnyH_take (i := 7) (oi := ?o55) (v := ?v55) ?hi55 ?hs55 ?hf55 ?hr55 ?hQ55 ?hy55 ?hS55 ?rest55
            case hi55 => rfl
            case hs55 => kernel_rfl
            case hf55 => kernel_rfl
            case hr55 => kernel_rfl
            case hQ55 => exact fun _ _ _ h => h
            case hS55 => assumption
            case hy55 =>
              refine Or.inl ⟨by kernel_rfl, ?_⟩
              intro w' hSw
              (try dsimp only at hSw)
              go_simp
              (try rfl)
            (try simp only [List.getElem_toArray, List.getElem_cons_succ, List.getElem_cons_zero, Act.put, List.setIfInBounds_toArray, List.set_cons_zero, List.set_cons_succ])
            refine wpAnyH_ready (rs := [8]) (by kernel_rfl) (by simp) ?_
            refine AllReadyH.cons rfl (fun K hK => ?_) AllReadyH.nil
            go_simp
            have hN := box_new wc53 (.cells #[.bool false, .int .u64 0, .int .u64 0, .int .i64 0] 28)
            have hn1 : w.heap.size + 1 < wc53.heap.size := blkF hB
            have hn2 : X1 < wc53.heap.size := blkF hX
            replace hA := blkAl hA (.cells #[.bool false, .int .u64 0, .int .u64 0, .int .i64 0] 28)
            replace hB := blkAl hB (.cells #[.bool false, .int .u64 0, .int .u64 0, .int .i64 0] 28)
            replace hX := blkAl hX (.cells #[.bool false, .int .u64 0, .int .u64 0, .int .i64 0] 28)
            replace HT := Lib.hid (HT.out.alloc HT.out.size (.cells #[.bool false, .int .u64 0, .int .u64 0, .int .i64 0] 28))
            refine hK.out _ _ ?_ (fun hHeld => ?_)
            · exact ⟨cell_blk hA 0, cell_blk hA 1, cell_blk hA 2, cell_blk hA 3, cell_blk hB 0, cell_blk hB 1, cell_blk hB 2, cell_blk hB 3⟩
            clear hK K
            (try simp only [List.getElem_toArray, List.getElem_cons_succ, List.getElem_cons_zero, Act.put, List.setIfInBounds_toArray, List.set_cons_zero, List.set_cons_succ])
            generalize (wc53.alloc (.cells #[.bool false, .int .u64 0, .int .u64 0, .int .i64 0] 28)) = wa54 at hA hB hX hN HT hHeld ⊢
            generalize wc53.heap.size = X2 at hN hn1 hn2 ⊢
            have cN0 : wa54.cell? ⟨X2, 0, none⟩ = some (.bool false) := cell_blk hN 0
            have cN1 : wa54.cell? ⟨X2, 1, none⟩ = some (.int .u64 0) := cell_blk hN 1
            have cN2 : wa54.cell? ⟨X2, 2, none⟩ = some (.int .u64 0) := cell_blk hN 2
            have cN3 : wa54.cell? ⟨X2, 3, none⟩ = some (.int .i64 0) := cell_blk hN 3
            have fN := free_blk hN
            have lN := blkF hN
            refine wpAnyH_ready (rs := [9]) (by kernel_rfl) (by simp) ?_
            refine AllReadyH.cons rfl (fun K hK => ?_) AllReadyH.nil
            go_simp
            replace hA := (st4_blk_farF (.bool n) (.int .u64 h) (.int .u64 l) (.int .i64 k) (show X2 ≠ w.heap.size by omega)).trans hA
            replace hB := (st4_blk_farF (.bool n) (.int .u64 h) (.int .u64 l) (.int .i64 k) (show X2 ≠ w.heap.size + 1 by omega)).trans hB
            replace hX := (st4_blk_farF (.bool n) (.int .u64 h) (.int .u64 l) (.int .i64 k) (show X2 ≠ X1 by omega)).trans hX
            have hM := st4_blkF (b0 := .bool n) (b1 := .int .u64 h) (b2 := .int .u64 l) (b3 := .int .i64 k) hN
            replace HT := Lib.hid (st4_belowF (X := X2) HT.out (by omega) (.bool n) (.int .u64 h) (.int .u64 l) (.int .i64 k))
            clear hN cN0 cN1 cN2 cN3 fN lN
            refine hK.out _ _ ?_ (fun hHeld => ?_)
            · exact ⟨cell_blk hA 0, cell_blk hA 1, cell_blk hA 2, cell_blk hA 3, cell_blk hB 0, cell_blk hB 1, cell_blk hB 2, cell_blk hB 3⟩
            clear hK K
            (try simp only [List.getElem_toArray, List.getElem_cons_succ, List.getElem_cons_zero, Act.put, List.setIfInBounds_toArray, List.set_cons_zero, List.set_cons_succ])
            generalize ((((wa54.setCell ⟨X2, 0, none⟩ (.bool n)).setCell ⟨X2, 1, none⟩ (.int .u64 h)).setCell ⟨X2, 2, none⟩ (.int .u64 l)).setCell ⟨X2, 3, none⟩ (.int .i64 k)) = ws55 at hA hB hX hM HT hHeld ⊢
            refine wpAnyH_take (i := 10) (oi := ?o56) (v := ?v56) ?hi56 ?hs56 ?hf56 ?hr56 ?hQ56 ?hy56 ?hS56 ?rest56
            case hi56 => rfl
            case hs56 => kernel_rfl
            case hf56 => kernel_rfl
            case hr56 => kernel_rfl
            case hQ56 => exact fun _ _ _ h => h
            case hS56 => assumption
            case hy56 =>
              refine Or.inl ⟨by kernel_rfl, ?_⟩
              intro w' hSw
              (try dsimp only at hSw)
              go_simp
              (try rfl)
            (try simp only [List.getElem_toArray, List.getElem_cons_succ, List.getElem_cons_zero, Act.put, List.setIfInBounds_toArray, List.set_cons_zero, List.set_cons_succ])
            refine wpAnyH_done (by kernel_rfl) ?_ _
            refine NoPanic.normal ?_
            have hx1 := blkF hX
            have hx2 := blkF hM
            have cX0 : ws55.cell? ⟨X1, 0, none⟩ = some (.bool n) := cell_blk hX 0
            have cX1 : ws55.cell? ⟨X1, 1, none⟩ = some (.int .u64 h) := cell_blk hX 1
            have cX2 : ws55.cell? ⟨X1, 2, none⟩ = some (.int .u64 l) := cell_blk hX 2
            have cX3 : ws55.cell? ⟨X1, 3, none⟩ = some (.int .i64 k) := cell_blk hX 3
            have cM0 : ws55.cell? ⟨X2, 0, none⟩ = some (.bool n) := cell_blk hM 0
            have cM1 : ws55.cell? ⟨X2, 1, none⟩ = some (.int .u64 h) := cell_blk hM 1
            have cM2 : ws55.cell? ⟨X2, 2, none⟩ = some (.int .u64 l) := cell_blk hM 2
            have cM3 : ws55.cell? ⟨X2, 3, none⟩ = some (.int .i64 k) := cell_blk hM 3
            go_wp2_with fail
            refine (eqFrac_same n h l k _).mono ?_
            rintro e w9 ⟨rfl, hB9⟩
            replace HT := Lib.hid (bt2 HT.out hB9)
            clear hB9
            go_wp2_with fail
            all_goals first
              | (go_ret; exact ⟨rfl, HT.out⟩)
              | (exfalso; simp_all; done)
          · skip
            go_simp
            have hN := box_new wc52 (.cells #[.bool false, .int .u64 0, .int .u64 0, .int .i64 0] 28)
            have hn1 : w.heap.size + 1 < wc52.heap.size := blkF hB
            have hn2 : X1 < wc52.heap.size := blkF hX
            replace hA := blkAl hA (.cells #[.bool false, .int .u64 0, .int .u64 0, .int .i64 0] 28)
            replace hB := blkAl hB (.cells #[.bool false, .int .u64 0, .int .u64 0, .int .i64 0] 28)
            replace hX := blkAl hX (.cells #[.bool false, .int .u64 0, .int .u64 0, .int .i64 0] 28)
            replace HT := Lib.hid (HT.out.alloc HT.out.size (.cells #[.bool false, .int .u64 0, .int .u64 0, .int .i64 0] 28))
            refine hK.out _ _ ?_ (fun hHeld => ?_)
            · exact ⟨cell_blk hA 0, cell_blk hA 1, cell_blk hA 2, cell_blk hA 3, cell_blk hB 0, cell_blk hB 1, cell_blk hB 2, cell_blk hB 3⟩
            clear hK K
            (try simp only [List.getElem_toArray, List.getElem_cons_succ, List.getElem_cons_zero, Act.put, List.setIfInBounds_toArray, List.set_cons_zero, List.set_cons_succ])
            generalize (wc52.alloc (.cells #[.bool false, .int .u64 0, .int .u64 0, .int .i64 0] 28)) = wa56 at hA hB hX hN HT hHeld ⊢
            generalize wc52.heap.size = X2 at hN hn1 hn2 ⊢
            refine wpAnyH_ready (rs := [4]) (by kernel_rfl) (by simp) ?_
            refine AllReadyH.cons rfl (fun K hK => ?_) AllReadyH.nil
            go_simp
            refine (implAddFrac n0 h0 l0 d0 n1 h1 l1 d1 hp0 hq0 lp0 lq0 dp0 dq0 hp1 hq1 lp1 lq1 dp1 dq1 _).mono ?_
            rintro e wc57 ⟨rfl, hBc⟩
            rw [HE.out]
            replace hA := box_still hA hBc
            replace hB := box_still hB hBc
            replace hX := box_still hX hBc
            replace hN := box_still hN hBc
            replace HT := Lib.hid (bt2 HT.out hBc)
            clear hBc
            refine hK.out _ _ ?_ (fun hHeld => ?_)
            · exact ⟨cell_blk hA 0, cell_blk hA 1, cell_blk hA 2, cell_blk hA 3, cell_blk hB 0, cell_blk hB 1, cell_blk hB 2, cell_blk hB 3⟩
            clear hK K
            (try simp only [List.getElem_toArray, List.getElem_cons_succ, List.getElem_cons_zero, Act.put, List.setIfInBounds_toArray, List.set_cons_zero, List.set_cons_succ])
            refine wpAnyH_take (i := 5) (oi := ?o57) (v := ?v57) ?hi57 ?hs57 ?hf57 ?hr57 ?hQ57 ?hy57 ?hS57 ?rest57
            case hi57 => rfl
            case hs57 => kernel_rfl
            case hf57 => kernel_rfl
            case hr57 => kernel_rfl
            case hQ57 => exact fun _ _ _ h => h
            case hS57 => assumption
            case hy57 =>
              refine Or.inl ⟨by kernel_rfl, ?_⟩
              intro w' hSw
              (try dsimp only at hSw)
              go_simp
              (try rfl)
            (try simp only [List.getElem_toArray, List.getElem_cons_succ, List.getElem_cons_zero, Act.put, List.setIfInBounds_toArray, List.set_cons_zero, List.set_cons_succ])
            refine wpAnyH_take (i := 6) (oi := ?o58) (v := ?v58) ?hi58 ?hs58 ?hf58 ?hr58 ?hQ58 ?hy58 ?hS58 ?rest58
            case hi58 => rfl
            case hs58 => kernel_rfl
            case hf58 => kernel_rfl
            case hr58 => kernel_rfl
            case hQ58 => exact fun _ _ _ h => h
            case hS58 => assumption
            case hy58 =>
              refine Or.inl ⟨by kernel_rfl, ?_⟩
              intro w' hSw
              (try dsimp only at hSw)
              go_simp
              (try rfl)
            (try simp only [List.getElem_toArray, List.getElem_cons_succ, List.getElem_cons_zero, Act.put, List.setIfInBounds_toArray, List.set_cons_zero, List.set_cons_succ])
            refine wpAnyH_take (i := 7) (oi := ?o59) (v := ?v59) ?hi59 ?hs59 ?hf59 ?hr59 ?hQ59 ?hy59 ?hS59 ?rest59
            case hi59 => rfl
            case hs59 => kernel_rfl
            case hf59 => kernel_rfl
            case hr59 => kernel_rfl
            case hQ59 => exact fun _ _ _ h => h
            case hS59 => assumption
            case hy59 =>
              refine Or.inl ⟨by kernel_rfl, ?_⟩
              intro w' hSw
              (try dsimp only at hSw)
              go_simp
              (try rfl)
            (try simp only [List.getElem_toArray, List.getElem_cons_succ, List.getElem_cons_zero, Act.put, List.setIfInBounds_toArray, List.set_cons_zero, List.set_cons_succ])
            have cN0 : wc57.cell? ⟨X2, 0, none⟩ = some (.bool false) := cell_blk hN 0
            have cN1 : wc57.cell? ⟨X2, 1, none⟩ = some (.int .u64 0) := cell_blk hN 1
            have cN2 : wc57.cell? ⟨X2, 2, none⟩ = some (.int .u64 0) := cell_blk hN 2
            have cN3 : wc57.cell? ⟨X2, 3, none⟩ = some (.int .i64 0) := cell_blk hN 3
            have fN := free_blk hN
            have lN := blkF hN
            refine wpAnyH_ready (rs := [9]) (by kernel_rfl) (by simp) ?_
            refine AllReadyH.cons rfl (fun K hK => ?_) AllReadyH.nil
            go_simp
            replace hA := (st4_blk_farF (.bool n) (.int .u64 h) (.int .u64 l) (.int .i64 k) (show X2 ≠ w.heap.size by omega)).trans hA
            replace hB := (st4_blk_farF (.bool n) (.int .u64 h) (.int .u64 l) (.int .i64 k) (show X2 ≠ w.heap.size + 1 by omega)).trans hB
            replace hX := (st4_blk_farF (.bool n) (.int .u64 h) (.int .u64 l) (.int .i64 k) (show X2 ≠ X1 by omega)).trans hX
            have hM := st4_blkF (b0 := .bool n) (b1 := .int .u64 h) (b2 := .int .u64 l) (b3 := .int .i64 k) hN
            replace HT := Lib.hid (st4_belowF (X := X2) HT.out (by omega) (.bool n) (.int .u64 h) (.int .u64 l) (.int .i64 k))
            clear hN cN0 cN1 cN2 cN3 fN lN
            refine hK.out _ _ ?_ (fun hHeld => ?_)
            · exact ⟨cell_blk hA 0, cell_blk hA 1, cell_blk hA 2, cell_blk hA 3, cell_blk hB 0, cell_blk hB 1, cell_blk hB 2, cell_blk hB 3⟩
            clear hK K
            (try simp only [List.getElem_toArray, List.getElem_cons_succ, List.getElem_cons_zero, Act.put, List.setIfInBounds_toArray, List.set_cons_zero, List.set_cons_succ])
            generalize ((((wc57.setCell ⟨X2, 0, none⟩ (.bool n)).setCell ⟨X2, 1, none⟩ (.int .u64 h)).setCell ⟨X2, 2, none⟩ (.int .u64 l)).setCell ⟨X2, 3, none⟩ (.int .i64 k)) = ws58 at hA hB hX hM HT hHeld ⊢
            refine wpAnyH_take (i := 10) (oi := ?o60) (v := ?v60) ?hi60 ?hs60 ?hf60 ?hr60 ?hQ60 ?hy60 ?hS60 ?rest60
            case hi60 => rfl
            case hs60 => kernel_rfl
            case hf60 => kernel_rfl
            case hr60 => kernel_rfl
            case hQ60 => exact fun _ _ _ h => h
            case hS60 => assumption
            case hy60 =>
              refine Or.inl ⟨by kernel_rfl, ?_⟩
              intro w' hSw
              (try dsimp only at hSw)
              go_simp
              (try rfl)
            (try simp only [List.getElem_toArray, List.getElem_cons_succ, List.getElem_cons_zero, Act.put, List.setIfInBounds_toArray, List.set_cons_zero, List.set_cons_succ])
            refine wpAnyH_done (by kernel_rfl) ?_ _
            refine NoPanic.normal ?_
            have hx1 := blkF hX
            have hx2 := blkF hM
            have cX0 : ws58.cell? ⟨X1, 0, none⟩ = some (.bool n) := cell_blk hX 0
            have cX1 : ws58.cell? ⟨X1, 1, none⟩ = some (.int .u64 h) := cell_blk hX 1
            have cX2 : ws58.cell? ⟨X1, 2, none⟩ = some (.int .u64 l) := cell_blk hX 2
            have cX3 : ws58.cell? ⟨X1, 3, none⟩ = some (.int .i64 k) := cell_blk hX 3
            have cM0 : ws58.cell? ⟨X2, 0, none⟩ = some (.bool n) := cell_blk hM 0
            have cM1 : ws58.cell? ⟨X2, 1, none⟩ = some (.int .u64 h) := cell_blk hM 1
            have cM2 : ws58.cell? ⟨X2, 2, none⟩ = some (.int .u64 l) := cell_blk hM 2
            have cM3 : ws58.cell? ⟨X2, 3, none⟩ = some (.int .i64 k) := cell_blk hM 3
            go_wp2_with fail
            refine (eqFrac_same n h l k _).mono ?_
            rintro e w9 ⟨rfl, hB9⟩
            replace HT := Lib.hid (bt2 HT.out hB9)
            clear hB9
            go_wp2_with fail
            all_goals first
              | (go_ret; exact ⟨rfl, HT.out⟩)
              | (exfalso; simp_all; done)
        · skip
          go_simp
          have hN := box_new wc51 (.cells #[.bool false, .int .u64 0, .int .u64 0, .int .i64 0] 28)
          have hn1 : w.heap.size + 1 < wc51.heap.size := blkF hB
          have hn2 : X1 < wc51.heap.size := blkF hX
          replace hA := blkAl hA (.cells #[.bool false, .int .u64 0, .int .u64 0, .int .i64 0] 28)
          replace hB := blkAl hB (.cells #[.bool false, .int .u64 0, .int .u64 0, .int .i64 0] 28)
          replace hX := blkAl hX (.cells #[.bool false, .int .u64 0, .int .u64 0, .int .i64 0] 28)
          replace HT := Lib.hid (HT.out.alloc HT.out.size (.cells #[.bool false, .int .u64 0, .int .u64 0, .int .i64 0] 28))
          refine hK.out _ _ ?_ (fun hHeld => ?_)
          · exact ⟨cell_blk hA 0, cell_blk hA 1, cell_blk hA 2, cell_blk hA 3, cell_blk hB 0, cell_blk hB 1, cell_blk hB 2, cell_blk hB 3⟩
          clear hK K
          (try simp only [List.getElem_toArray, List.getElem_cons_succ, List.getElem_cons_zero, Act.put, List.setIfInBounds_toArray, List.set_cons_zero, List.set_cons_succ])
          generalize (wc51.alloc (.cells #[.bool false, .int .u64 0, .int .u64 0, .int .i64 0] 28)) = wa59 at hA hB hX hN HT hHeld ⊢
          generalize wc51.heap.size = X2 at hN hn1 hn2 ⊢
          refine wpAnyH_ready (rs := [3]) (by kernel_rfl) (by simp) ?_
          refine AllReadyH.cons rfl (fun K hK => ?_) AllReadyH.nil
          go_simp
          refine (toFrac n1 h1 l1 d1 _).mono ?_
          rintro e wc60 ⟨rfl, hBc⟩
          replace hA := box_still hA hBc
          replace hB := box_still hB hBc
          replace hX := box_still hX hBc
          replace hN := box_still hN hBc
          replace HT := Lib.hid (bt2 HT.out hBc)
          clear hBc
          refine hK.out _ _ ?_ (fun hHeld => ?_)
          · exact ⟨cell_blk hA 0, cell_blk hA 1, cell_blk hA 2, cell_blk hA 3, cell_blk hB 0, cell_blk hB 1, cell_blk hB 2, cell_blk hB 3⟩
          clear hK K
          (try simp only [List.getElem_toArray, List.getElem_cons_succ, List.getElem_cons_zero, Act.put, List.setIfInBounds_toArray, List.set_cons_zero, List.set_cons_succ])
          refine wpAnyH_ready (rs := [4]) (by kernel_rfl) (by simp) ?_
          refine AllReadyH.cons rfl (fun K hK => ?_) AllReadyH.nil
          go_simp
          refine (implAddFrac n0 h0 l0 d0 n1 h1 l1 d1 hp0 hq0 lp0 lq0 dp0 dq0 hp1 hq1 lp1 lq1 dp1 dq1 _).mono ?_
          rintro e wc61 ⟨rfl, hBc⟩
          rw [HE.out]
          replace hA := box_still hA hBc
          replace hB := box_still hB hBc
          replace hX := box_still hX hBc
          replace hN := box_still hN hBc
          replace HT := Lib.hid (bt2 HT.out hBc)
          clear hBc
          refine hK.out _ _ ?_ (fun hHeld => ?_)
          · exact ⟨cell_blk hA 0, cell_blk hA 1, cell_blk hA 2, cell_blk hA 3, cell_blk hB 0, cell_blk hB 1, cell_blk hB 2, cell_blk hB 3⟩
          clear hK K
          (try simp only [List.getElem_toArray, List.getElem_cons_succ, List.getElem_cons_zero, Act.put, List.setIfInBounds_toArray, List.set_cons_zero, List.set_cons_succ])
          refine wpAnyH_take (i := 5) (oi := ?o61) (v := ?v61) ?hi61 ?hs61 ?hf61 ?hr61 ?hQ61 ?hy61 ?hS61 ?rest61
          case hi61 => rfl
          case hs61 => kernel_rfl
          case hf61 => kernel_rfl
          case hr61 => kernel_rfl
          case hQ61 => exact fun _ _ _ h => h
          case hS61 => assumption
          case hy61 =>
            refine Or.inl ⟨by kernel_rfl, ?_⟩
            intro w' hSw
            (try dsimp only at hSw)
            go_simp
            (try rfl)
          (try simp only [List.getElem_toArray, List.getElem_cons_succ, List.getElem_cons_zero, Act.put, List.setIfInBounds_toArray, List.set_cons_zero, List.set_cons_succ])
          refine wpAnyH_take (i := 6) (oi := ?o62) (v := ?v62) ?hi62 ?hs62 ?hf62 ?hr62 ?hQ62 ?hy62 ?hS62 ?rest62
          case hi62 => rfl
          case hs62 => kernel_rfl
          case hf62 => kernel_rfl
          case hr62 => kernel_rfl
          case hQ62 => exact fun _ _ _ h => h
          case hS62 => assumption
          case hy62 =>
            refine Or.inl ⟨by kernel_rfl, ?_⟩
            intro w' hSw
            (try dsimp only at hSw)
            go_simp
            (try rfl)
          (try simp only [List.getElem_toArray, List.getElem_cons_succ, List.getElem_cons_zero, Act.put, List.setIfInBounds_toArray, List.set_cons_zero, List.set_cons_succ])
          refine wpAnyH_take (i := 7) (oi := ?o63) (v := ?v63) ?hi63 ?hs63 ?hf63 ?hr63 ?hQ63 ?hy63 ?hS63 ?rest63
          case hi63 => rfl
          case hs63 => kernel_rfl
          case hf63 => kernel_rfl
          case hr63 => kernel_rfl
          case hQ63 => exact fun _ _ _ h => h
          case hS63 => assumption
          case hy63 =>
            refine Or.inl ⟨by kernel_rfl, ?_⟩
            intro w' hSw
            (try dsimp only at hSw)
            go_simp
            (try rfl)
          (try simp only [List.getElem_toArray, List.getElem_cons_succ, List.getElem_cons_zero, Act.put, List.setIfInBounds_toArray, List.set_cons_zero, List.set_cons_succ])
          have cN0 : wc61.cell? ⟨X2, 0, none⟩ = some (.bool false) := cell_blk hN 0
          have cN1 : wc61.cell? ⟨X2, 1, none⟩ = some (.int .u64 0) := cell_blk hN 1
          have cN2 : wc61.cell? ⟨X2, 2, none⟩ = some (.int .u64 0) := cell_blk hN 2
          have cN3 : wc61.cell? ⟨X2, 3, none⟩ = some (.int .i64 0) := cell_blk hN 3
          have fN := free_blk hN
          have lN := blkF hN
          refine wpAnyH_ready (rs := [9]) (by kernel_rfl) (by simp) ?_
          refine AllReadyH.cons rfl (fun K hK => ?_) AllReadyH.nil
          go_simp
          replace hA := (st4_blk_farF (.bool n) (.int .u64 h) (.int .u64 l) (.int .i64 k) (show X2 ≠ w.heap.size by omega)).trans hA
          replace hB := (st4_blk_farF (.bool n) (.int .u64 h) (.int .u64 l) (.int .i64 k) (show X2 ≠ w.heap.size + 1 by omega)).trans hB
          replace hX := (st4_blk_farF (.bool n) (.int .u64 h) (.int .u64 l) (.int .i64 k) (show X2 ≠ X1 by omega)).trans hX
          have hM := st4_blkF (b0 := .bool n) (b1 := .int .u64 h) (b2 := .int .u64 l) (b3 := .int .i64 k) hN
          replace HT := Lib.hid (st4_belowF (X := X2) HT.out (by omega) (.bool n) (.int .u64 h) (.int .u64 l) (.int .i64 k))
          clear hN cN0 cN1 cN2 cN3 fN lN
          refine hK.out _ _ ?_ (fun hHeld => ?_)
          · exact ⟨cell_blk hA 0, cell_blk hA 1, cell_blk hA 2, cell_blk hA 3, cell_blk hB 0, cell_blk hB 1, cell_blk hB 2, cell_blk hB 3⟩
          clear hK K
          (try simp only [List.getElem_toArray, List.getElem_cons_succ, List.getElem_cons_zero, Act.put, List.setIfInBounds_toArray, List.set_cons_zero, List.set_cons_succ])
          generalize ((((wc61.setCell ⟨X2, 0, none⟩ (.bool n)).setCell ⟨X2, 1, none⟩ (.int .u64 h)).setCell ⟨X2, 2, none⟩ (.int .u64 l)).setCell ⟨X2, 3, none⟩ (.int .i64 k)) = ws62 at hA hB hX hM HT hHeld ⊢
          refine wpAnyH_take (i := 10) (oi := ?o64) (v := ?v64) ?hi64 ?hs64 ?hf64 ?hr64 ?hQ64 ?hy64 ?hS64 ?rest64
          case hi64 => rfl
          case hs64 => kernel_rfl
          case hf64 => kernel_rfl
          case hr64 => kernel_rfl
          case hQ64 => exact fun _ _ _ h => h
          case hS64 => assumption
          case hy64 =>
            refine Or.inl ⟨by kernel_rfl, ?_⟩
            intro w' hSw
            (try dsimp only at hSw)
            go_simp
            (try rfl)
          (try simp only [List.getElem_toArray, List.getElem_cons_succ, List.getElem_cons_zero, Act.put, List.setIfInBounds_toArray, List.set_cons_zero, List.set_cons_succ])
          refine wpAnyH_done (by kernel_rfl) ?_ _
          refine NoPanic.normal ?_
          have hx1 := blkF hX
          have hx2 := blkF hM
          have cX0 : ws62.cell? ⟨X1, 0, none⟩ = some (.bool n) := cell_blk hX 0
          have cX1 : ws62.cell? ⟨X1, 1, none⟩ = some (.int .u64 h) := cell_blk hX 1
          have cX2 : ws62.cell? ⟨X1, 2, none⟩ = some (.int .u64 l) := cell_blk hX 2
          have cX3 : ws62.cell? ⟨X1, 3, none⟩ = some (.int .i64 k) := cell_blk hX 3
          have cM0 : ws62.cell? ⟨X2, 0, none⟩ = some (.bool n) := cell_blk hM 0
          have cM1 : ws62.cell? ⟨X2, 1, none⟩ = some (.int .u64 h) := cell_blk hM 1
          have cM2 : ws62.cell? ⟨X2, 2, none⟩ = some (.int .u64 l) := cell_blk hM 2
          have cM3 : ws62.cell? ⟨X2, 3, none⟩ = some (.int .i64 k) := cell_blk hM 3
          go_wp2_with fail
          refine (eqFrac_same n h l k _).mono ?_
          rintro e w9 ⟨rfl, hB9⟩
          replace HT := Lib.hid (bt2 HT.out hB9)
          clear hB9
          go_wp2_with fail
          all_goals first
            | (go_ret; exact ⟨rfl, HT.out⟩)
            | (exfalso; simp_all; done)
      · skip
        go_simp
        have hN := box_new wd50 (.cells #[.bool false, .int .u64 0, .int .u64 0, .int .i64 0] 28)
        have hn1 : w.heap.size + 1 < wd50.heap.size := blkF hB
        have hn2 : X1 < wd50.heap.size := blkF hX
        replace hA := blkAl hA (.cells #[.bool false, .int .u64 0, .int .u64 0, .int .i64 0] 28)
        replace hB := blkAl hB (.cells #[.bool false, .int .u64 0, .int .u64 0, .int .i64 0] 28)
        replace hX := blkAl hX (.cells #[.bool false, .int .u64 0, .int .u64 0, .int .i64 0] 28)
        replace HT := Lib.hid (HT.out.alloc HT.out.size (.cells #[.bool false, .int .u64 0, .int .u64 0, .int .i64 0] 28))
        refine hK.out _ _ ?_ (fun hHeld => ?_)
        · exact ⟨cell_blk hA 0, cell_blk hA 1, cell_blk hA 2, cell_blk hA 3, cell_blk hB 0, cell_blk hB 1, cell_blk hB 2, cell_blk hB 3⟩
        clear hK K
        (try simp only [List.getElem_toArray, List.getElem_cons_succ, List.getElem_cons_zero, Act.put, List.setIfInBounds_toArray, List.set_cons_zero, List.set_cons_succ])
        generalize (wd50.alloc (.cells #[.bool false, .int .u64 0, .int .u64 0, .int .i64 0] 28)) = wa63 at hA hB hX hN HT hHeld ⊢
        generalize wd50.heap.size = X2 at hN hn1 hn2 ⊢
        refine wpAnyH_ready (rs := [1]) (by kernel_rfl) (by simp) ?_
        refine AllReadyH.cons rfl (fun K hK => ?_) AllReadyH.nil
        go_simp
        refine (toFrac n0 h0 l0 d0 _).mono ?_
        rintro e wc64 ⟨rfl, hBc⟩
        replace hA := box_still hA hBc
        replace hB := box_still hB hBc
        replace hX := box_still hX hBc
        replace hN := box_still hN hBc
        replace HT := Lib.hid (bt2 HT.out hBc)
        clear hBc
        refine hK.out _ _ ?_ (fun hHeld => ?_)
        · exact ⟨cell_blk hA 0, cell_blk hA 1, cell_blk hA 2, cell_blk hA 3, cell_blk hB 0, cell_blk hB 1, cell_blk hB 2, cell_blk hB 3⟩
        clear hK K
        (try simp only [List.getElem_toArray, List.getElem_cons_succ, List.getElem_cons_zero, Act.put, List.setIfInBounds_toArray, List.set_cons_zero, List.set_cons_succ])
        refine wpAnyH_ready (rs := [3]) (by kernel_rfl) (by simp) ?_
        refine AllReadyH.cons rfl (fun K hK => ?_) AllReadyH.nil
        go_simp
        refine (toFrac n1 h1 l1 d1 _).mono ?_
        rintro e wc65 ⟨rfl, hBc⟩
        replace hA := box_still hA hBc
        replace hB := box_still hB hBc
        replace hX := box_still hX hBc
        replace hN := box_still hN hBc
        replace HT := Lib.hid (bt2 HT.out hBc)
        clear hBc
        refine hK.out _ _ ?_ (fun hHeld => ?_)
        · exact ⟨cell_blk hA 0, cell_blk hA 1, cell_blk hA 2, cell_blk hA 3, cell_blk hB 0, cell_blk hB 1, cell_blk hB 2, cell_blk hB 3⟩
        clear hK K
        (try simp only [List.getElem_toArray, List.getElem_cons_succ, List.getElem_cons_zero, Act.put, List.setIfInBounds_toArray, List.set_cons_zero, List.set_cons_succ])
        refine wpAnyH_ready (rs := [4]) (by kernel_rfl) (by simp) ?_
        refine AllReadyH.cons rfl (fun K hK => ?_) AllReadyH.nil
        go_simp
        refine (implAddFrac n0 h0 l0 d0 n1 h1 l1 d1 hp0 hq0 lp0 lq0 dp0 dq0 hp1 hq1 lp1 lq1 dp1 dq1 _).mono ?_
        rintro e wc66 ⟨rfl, hBc⟩
        rw [HE.out]
        replace hA := box_still hA hBc
        replace hB := box_still hB hBc
        replace hX := box_still hX hBc
        replace hN := box_still hN hBc
        replace HT := Lib.hid (bt2 HT.out hBc)
        clear hBc
        refine hK.out _ _ ?_ (fun hHeld => ?_)
        · exact ⟨cell_blk hA 0, cell_blk hA 1, cell_blk hA 2, cell_blk hA 3, cell_blk hB 0, cell_blk hB 1, cell_blk hB 2, cell_blk hB 3⟩
        clear hK K
        (try simp only [List.getElem_toArray, List.getElem_cons_succ, List.getElem_cons_zero, Act.put, List.setIfInBounds_toArray, List.set_cons_zero, List.set_cons_succ])
        refine wpAnyH_take (i := 5) (oi := ?o65) (v := ?v65) ?hi65 ?hs65 ?hf65 ?hr65 ?hQ65 ?hy65 ?hS65 ?rest65
        case hi65 => rfl
        case hs65 => kernel_rfl
        case hf65 => kernel_rfl
        case hr65 => kernel_rfl
        case hQ65 => exact fun _ _ _ h => h
        case hS65 => assumption
        case hy65 =>
          refine Or.inl ⟨by kernel_rfl, ?_⟩
          intro w' hSw
          (try dsimp only at hSw)
          go_simp
          (try rfl)
        (try simp only [List.getElem_toArray, List.getElem_cons_succ, List.getElem_cons_zero, Act.put, List.setIfInBounds_toArray, List.set_cons_zero, List.set_cons_succ])
        refine wpAnyH_take (i := 6) (oi := ?o66) (v := ?v66) ?hi66 ?hs66 ?hf66 ?hr66 ?hQ66 ?hy66 ?hS66 ?rest66
        case hi66 => rfl
        case hs66 => kernel_rfl
        case hf66 => kernel_rfl
        case hr66 => kernel_rfl
        case hQ66 => exact fun _ _ _ h => h
        case hS66 => assumption
        case hy66 =>
          refine Or.inl ⟨by kernel_rfl, ?_⟩
          intro w' hSw
          (try dsimp only at hSw)
          go_simp
          (try rfl)
        (try simp only [List.getElem_toArray, List.getElem_cons_succ, List.getElem_cons_zero, Act.put, List.setIfInBounds_toArray, List.set_cons_zero, List.set_cons_succ])
        refine wpAnyH_take (i := 7) (oi := ?o67) (v := ?v67) ?hi67 ?hs67 ?hf67 ?hr67 ?hQ67 ?hy67 ?hS67 ?rest67
        case hi67 => rfl
        case hs67 => kernel_rfl
        case hf67 => kernel_rfl
        case hr67 => kernel_rfl
        case hQ67 => exact fun _ _ _ h => h
        case hS67 => assumption
        case hy67 =>
          refine Or.inl ⟨by kernel_rfl, ?_⟩
          intro w' hSw
          (try dsimp only at hSw)
          go_simp
          (try rfl)
        (try simp only [List.getElem_toArray, List.getElem_cons_succ, List.getElem_cons_zero, Act.put, List.setIfInBounds_toArray, List.set_cons_zero, List.set_cons_succ])
        have cN0 : wc66.cell? ⟨X2, 0, none⟩ = some (.bool false) := cell_blk hN 0
        have cN1 : wc66.cell? ⟨X2, 1, none⟩ = some (.int .u64 0) := cell_blk hN 1
        have cN2 : wc66.cell? ⟨X2, 2, none⟩ = some (.int .u64 0) := cell_blk hN 2
        have cN3 : wc66.cell? ⟨X2, 3, none⟩ = some (.int .i64 0) := cell_blk hN 3
        have fN := free_blk hN
        have lN := blkF hN
        refine wpAnyH_ready (rs := [9]) (by kernel_rfl) (by simp) ?_
        refine AllReadyH.cons rfl (fun K hK => ?_) AllReadyH.nil
        go_simp
        replace hA := (st4_blk_farF (.bool n) (.int .u64 h) (.int .u64 l) (.int .i64 k) (show X2 ≠ w.heap.size by omega)).trans hA
        replace hB := (st4_blk_farF (.bool n) (.int .u64 h) (.int .u64 l) (.int .i64 k) (show X2 ≠ w.heap.size + 1 by omega)).trans hB
        replace hX := (st4_blk_farF (.bool n) (.int .u64 h) (.int .u64 l) (.int .i64 k) (show X2 ≠ X1 by omega)).trans hX
        have hM := st4_blkF (b0 := .bool n) (b1 := .int .u64 h) (b2 := .int .u64 l) (b3 := .int .i64 k) hN
        replace HT := Lib.hid (st4_belowF (X := X2) HT.out (by omega) (.bool n) (.int .u64 h) (.int .u64 l) (.int .i64 k))
        clear hN cN0 cN1 cN2 cN3 fN lN
        refine hK.out _ _ ?_ (fun hHeld => ?_)
        · exact ⟨cell_blk hA 0, cell_blk hA 1, cell_blk hA 2, cell_blk hA 3, cell_blk hB 0, cell_blk hB 1, cell_blk hB 2, cell_blk hB 3⟩
        clear hK K
        (try simp only [List.getElem_toArray, List.getElem_cons_succ, List.getElem_cons_zero, Act.put, List.setIfInBounds_toArray, List.set_cons_zero, List.set_cons_succ])
        generalize ((((wc66.setCell ⟨X2, 0, none⟩ (.bool n)).setCell ⟨X2, 1, none⟩ (.int .u64 h)).setCell ⟨X2, 2, none⟩ (.int .u64 l)).setCell ⟨X2, 3, none⟩ (.int .i64 k)) = ws67 at hA hB hX hM HT hHeld ⊢
        refine wpAnyH_take (i := 10) (oi := ?o68) (v := ?v68) ?hi68 ?hs68 ?hf68 ?hr68 ?hQ68 ?hy68 ?hS68 ?rest68
        case hi68 => rfl
        case hs68 => kernel_rfl
        case hf68 => kernel_rfl
        case hr68 => kernel_rfl
        case hQ68 => exact fun _ _ _ h => h
        case hS68 => assumption
        case hy68 =>
          refine Or.inl ⟨by kernel_rfl, ?_⟩
          intro w' hSw
          (try dsimp only at hSw)
          go_simp
          (try rfl)
        (try simp only [List.getElem_toArray, List.getElem_cons_succ, List.getElem_cons_zero, Act.put, List.setIfInBounds_toArray, List.set_cons_zero, List.set_cons_succ])
        refine wpAnyH_done (by kernel_rfl) ?_ _
        refine NoPanic.normal ?_
        have hx1 := blkF hX
        have hx2 := blkF hM
        have cX0 : ws67.cell? ⟨X1, 0, none⟩ = some (.bool n) := cell_blk hX 0
        have cX1 : ws67.cell? ⟨X1, 1, none⟩ = some (.int .u64 h) := cell_blk hX 1
        have cX2 : ws67.cell? ⟨X1, 2, none⟩ = some (.int .u64 l) := cell_blk hX 2
        have cX3 : ws67.cell? ⟨X1, 3, none⟩ = some (.int .i64 k) := cell_blk hX 3
        have cM0 : ws67.cell? ⟨X2, 0, none⟩ = some (.bool n) := cell_blk hM 0
        have cM1 : ws67.cell? ⟨X2, 1, none⟩ = some (.int .u64 h) := cell_blk hM 1
        have cM2 : ws67.cell? ⟨X2, 2, none⟩ = some (.int .u64 l) := cell_blk hM 2
        have cM3 : ws67.cell? ⟨X2, 3, none⟩ = some (.int .i64 k) := cell_blk hM 3
        go_wp2_with fail
        refine (eqFrac_same n h l k _).mono ?_
        rintro e w9 ⟨rfl, hB9⟩
        replace HT := Lib.hid (bt2 HT.out hB9)
        clear hB9
        go_wp2_with fail
        all_goals first
          | (go_ret; exact ⟨rfl, HT.out⟩)
          | (exfalso; simp_all; done)
  · skip
    go_simp
    have hN := box_new wd1 (.cells #[.bool false, .int .u64 0, .int .u64 0, .int .i64 0] 28)
    have hn1 : w.heap.size + 1 < wd1.heap.size := blkF hB
    replace hA := blkAl hA (.cells #[.bool false, .int .u64 0, .int .u64 0, .int .i64 0] 28)
    replace hB := blkAl hB (.cells #[.bool false, .int .u64 0, .int .u64 0, .int .i64 0] 28)
    replace HT := Lib.hid (HT.out.alloc HT.out.size (.cells #[.bool false, .int .u64 0, .int .u64 0, .int .i64 0] 28))
    refine hK.out _ _ ?_ (fun hHeld => ?_)
    · exact ⟨cell_blk hA 0, cell_blk hA 1, cell_blk hA 2, cell_blk hA 3, cell_blk hB 0, cell_blk hB 1, cell_blk hB 2, cell_blk hB 3⟩
    clear hK K
    (try simp only [List.getElem_toArray, List.getElem_cons_succ, List.getElem_cons_zero, Act.put, List.setIfInBounds_toArray, List.set_cons_zero, List.set_cons_succ])
    generalize (wd1.alloc (.cells #[.bool false, .int .u64 0, .int .u64 0, .int .i64 0] 28)) = wa68 at hA hB hN HT hHeld ⊢
    generalize wd1.heap.size = X1 at hN hn1 ⊢
    refine wpAnyH_ready (rs := [1]) (by kernel_rfl) (by simp) ?_
    refine AllReadyH.cons rfl (fun K hK => ?_) AllReadyH.nil
    go_simp
    refine (toFrac n0 h0 l0 d0 _).mono ?_
    rintro e wc69 ⟨rfl, hBc⟩
    replace hA := box_still hA hBc
    replace hB := box_still hB hBc
    replace hN := box_still hN hBc
    replace HT := Lib.hid (bt2 HT.out hBc)
    clear hBc
    refine hK.out _ _ ?_ (fun hHeld => ?_)
    · exact ⟨cell_blk hA 0, cell_blk hA 1, cell_blk hA 2, cell_blk hA 3, cell_blk hB 0, cell_blk hB 1, cell_blk hB 2, cell_blk hB 3⟩
    clear hK K
    (try simp only [List.getElem_toArray, List.getElem_cons_succ, List.getElem_cons_zero, Act.put, List.setIfInBounds_toArray, List.set_cons_zero, List.set_cons_succ])
    refine wpAnyH_ready (rs := [3]) (by kernel_rfl) (by simp) ?_
    refine AllReadyH.cons rfl (fun K hK => ?_) AllReadyH.nil
    go_simp
    refine (toFrac n1 h1 l1 d1 _).mono ?_
    rintro e wc70 ⟨rfl, hBc⟩
    replace hA := box_still hA hBc
    replace hB := box_still hB hBc
    replace hN := box_still hN hBc
    replace HT := Lib.hid (bt2 HT.out hBc)
    clear hBc
    refine hK.out _ _ ?_ (fun hHeld => ?_)
    · exact ⟨cell_blk hA 0, cell_blk hA 1, cell_blk hA 2, cell_blk hA 3, cell_blk hB 0, cell_blk hB 1, cell_blk hB 2, cell_blk hB 3⟩
    clear hK K
    (try simp only [List.getElem_toArray, List.getElem_cons_succ, List.getElem_cons_zero, Act.put, List.setIfInBounds_toArray, List.set_cons_zero, List.set_cons_succ])
    refine wpAnyH_ready (rs := [4]) (by kernel_rfl) (by simp) ?_
    refine AllReadyH.cons rfl (fun K hK => ?_) AllReadyH.nil
    go_simp
    refine (specAddFrac n0 h0 l0 d0 n1 h1 l1 d1 hp0 hq0 lp0 lq0 dp0 dq0 hp1 hq1 lp1 lq1 dp1 dq1 _).mono ?_
    rintro e wc71 ⟨rfl, hBc⟩
    rw [HE.out]
    replace hA := box_still hA hBc
    replace hB := box_still hB hBc
    replace hN := box_still hN hBc
    replace HT := Lib.hid (bt2 HT.out hBc)
    clear hBc
    refine hK.out _ _ ?_ (fun hHeld => ?_)
    · exact ⟨cell_blk hA 0, cell_blk hA 1, cell_blk hA 2, cell_blk hA 3, cell_blk hB 0, cell_blk hB 1, cell_blk hB 2, cell_blk hB 3⟩
    clear hK K
    (try simp only [List.getElem_toArray, List.getElem_cons_succ, List.getElem_cons_zero, Act.put, List.setIfInBounds_toArray, List.set_cons_zero, List.set_cons_succ])
    refine wpAnyH_take (i := 5) (oi := ?o69) (v := ?v69) ?hi69 ?hs69 ?hf69 ?hr69 ?hQ69 ?hy69 ?hS69 ?rest69
    case hi69 => rfl
    case hs69 => kernel_rfl
    case hf69 => kernel_rfl
    case hr69 => kernel_rfl
    case hQ69 => exact fun _ _ _ h => h
    case hS69 => assumption
    case hy69 =>
      refine Or.inl ⟨by kernel_rfl, ?_⟩
      intro w' hSw
      (try dsimp only at hSw)
      go_simp
      (try rfl)
    (try simp only [List.getElem_toArray, List.getElem_cons_succ, List.getElem_cons_zero, Act.put, List.setIfInBounds_toArray, List.set_cons_zero, List.set_cons_succ])
    refine wpAnyH_take (i := 6) (oi := ?o70) (v := ?v70) ?hi70 ?hs70 ?hf70 ?hr70 ?hQ70 ?hy70 ?hS70 ?rest70
    case hi70 => rfl
    case hs70 => kernel_rfl
    case hf70 => kernel_rfl
    case hr70 => kernel_rfl
    case hQ70 => exact fun _ _ _ h => h
    case hS70 => assumption
    case hy70 =>
      refine Or.inl ⟨by kernel_rfl, ?_⟩
      intro w' hSw
      (try dsimp only at hSw)
      go_simp
      (try rfl)
    (try simp only [List.getElem_toArray, List.getElem_cons_succ, List.getElem_cons_zero, Act.put, List.setIfInBounds_toArray, List.set_cons_zero, List.set_cons_succ])
    refine wpAnyH_take (i := 7) (oi := ?o71) (v := ?v71) ?hi71 ?hs71 ?hf71 ?hr71 ?hQ71 ?hy71 ?hS71 ?rest71
    case hi71 => rfl
    case hs71 => kernel_rfl
    case hf71 => kernel_rfl
    case hr71 => kernel_rfl
    case hQ71 => exact fun _ _ _ h => h
    case hS71 => assumption
    case hy71 =>
      refine Or.inl ⟨by kernel_rfl, ?_⟩
      intro w' hSw
      (try dsimp only at hSw)
      go_simp
      (try rfl)
    (try simp only [List.getElem_toArray, List.getElem_cons_succ, List.getElem_cons_zero, Act.put, List.setIfInBounds_toArray, List.set_cons_zero, List.set_cons_succ])
    have cN0 : wc71.cell? ⟨X1, 0, none⟩ = some (.bool false) := cell_blk hN 0
    have cN1 : wc71.cell? ⟨X1, 1, none⟩ = some (.int .u64 0) := cell_blk hN 1
    have cN2 : wc71.cell? ⟨X1, 2, none⟩ = some (.int .u64 0) := cell_blk hN 2
    have cN3 : wc71.cell? ⟨X1, 3, none⟩ = some (.int .i64 0) := cell_blk hN 3
    have fN := free_blk hN
    have lN := blkF hN
    refine wpAnyH_ready (rs := [9]) (by kernel_rfl) (by simp) ?_
    refine AllReadyH.cons rfl (fun K hK => ?_) AllReadyH.nil
    go_simp
    replace hA := (st4_blk_farF (.bool n) (.int .u64 h) (.int .u64 l) (.int .i64 k) (show X1 ≠ w.heap.size by omega)).trans hA
    replace hB := (st4_blk_farF (.bool n) (.int .u64 h) (.int .u64 l) (.int .i64 k) (show X1 ≠ w.heap.size + 1 by omega)).trans hB
    have hM := st4_blkF (b0 := .bool n) (b1 := .int .u64 h) (b2 := .int .u64 l) (b3 := .int .i64 k) hN
    replace HT := Lib.hid (st4_belowF (X := X1) HT.out (by omega) (.bool n) (.int .u64 h) (.int .u64 l) (.int .i64 k))
    clear hN cN0 cN1 cN2 cN3 fN lN
    refine hK.out _ _ ?_ (fun hHeld => ?_)
    · exact ⟨cell_blk hA 0, cell_blk hA 1, cell_blk hA 2, cell_blk hA 3, cell_blk hB 0, cell_blk hB 1, cell_blk hB 2, cell_blk hB 3⟩
    clear hK K
    (try simp only [List.getElem_toArray, List.getElem_cons_succ, List.getElem_cons_zero, Act.put, List.setIfInBounds_toArray, List.set_cons_zero, List.set_cons_succ])
    generalize ((((wc71.setCell ⟨X1, 0, none⟩ (.bool n)).setCell ⟨X1, 1, none⟩ (.int .u64 h)).setCell ⟨X1, 2, none⟩ (.int .u64 l)).setCell ⟨X1, 3, none⟩ (.int .i64 k)) = ws72 at hA hB hM HT hHeld ⊢
    refine wpAnyH_take (i := 10) (oi := ?o72) (v := ?v72) ?hi72 ?hs72 ?hf72 ?hr72 ?hQ72 ?hy72 ?hS72 ?rest72
    case hi72 => rfl
    case hs72 => kernel_rfl
    case hf72 => kernel_rfl
    case hr72 => kernel_rfl
    case hQ72 => exact fun _ _ _ h => h
    case hS72 => assumption
    case hy72 =>
      refine Or.inl ⟨by kernel_rfl, ?_⟩
      intro w' hSw
      (try dsimp only at hSw)
      go_simp
      (try rfl)
    (try simp only [List.getElem_toArray, List.getElem_cons_succ, List.getElem_cons_zero, Act.put, List.setIfInBounds_toArray, List.set_cons_zero, List.set_cons_succ])
    refine wpAnyH_done (by kernel_rfl) ?_ _
    refine NoPanic.normal ?_
    have hX := hM
    clear hM
    go_wp2_with fail
    have hDD : ws72.drew.cell? ⟨w.heap.size, 0, none⟩ = some (.bool n0) ∧ ws72.drew.cell? ⟨w.heap.size, 1, none⟩ = some (.int .u64 h0) ∧ ws72.drew.cell? ⟨w.heap.size, 2, none⟩ = some (.int .u64 l0) ∧ ws72.drew.cell? ⟨w.heap.size, 3, none⟩ = some (.int .i64 d0) ∧ ws72.drew.cell? ⟨w.heap.size + 1, 0, none⟩ = some (.bool n1) ∧ ws72.drew.cell? ⟨w.heap.size + 1, 1, none⟩ = some (.int .u64 h1) ∧ ws72.drew.cell? ⟨w.heap.size + 1, 2, none⟩ = some (.int .u64 l1) ∧ ws72.drew.cell? ⟨w.heap.size + 1, 3, none⟩ = some (.int .i64 d1) := ⟨cell_blk (w := ws72) hA 0, cell_blk (w := ws72) hA 1, cell_blk (w := ws72) hA 2, cell_blk (w := ws72) hA 3, cell_blk (w := ws72) hB 0, cell_blk (w := ws72) hB 1, cell_blk (w := ws72) hB 2, cell_blk (w := ws72) hB 3⟩
    refine wp_region_noPanic ?_
    refine wp_region_held_drew (S := (fun w' => w'.cell? ⟨w.heap.size, 0, none⟩ = some (.bool n0) ∧ w'.cell? ⟨w.heap.size, 1, none⟩ = some (.int .u64 h0) ∧ w'.cell? ⟨w.heap.size, 2, none⟩ = some (.int .u64 l0) ∧ w'.cell? ⟨w.heap.size, 3, none⟩ = some (.int .i64 d0) ∧ w'.cell? ⟨w.heap.size + 1, 0, none⟩ = some (.bool n1) ∧ w'.cell? ⟨w.heap.size + 1, 1, none⟩ = some (.int .u64 h1) ∧ w'.cell? ⟨w.heap.size + 1, 2, none⟩ = some (.int .u64 l1) ∧ w'.cell? ⟨w.heap.size + 1, 3, none⟩ = some (.int .i64 d1))) (by kernel_rfl) hDD (fun hHeld => ?_)
    clear hDD
    replace hA : ws72.drew.heap[w.heap.size]? = _ := hA
    replace hB : ws72.drew.heap[w.heap.size + 1]? = _ := hB
    replace hX : ws72.drew.heap[X1]? = _ := hX
    replace HT : Hid (Below w.heap.size w ws72.drew) := Lib.hid (Below.drew HT.out)
    generalize ws72.drew = wd73 at hA hB hX HT hHeld ⊢
    refine wpAnyH_take (i := 0) (oi := ?o73) (v := ?v73) ?hi73 ?hs73 ?hf73 ?hr73 ?hQ73 ?hy73 ?hS73 ?rest73
    case hi73 => rfl
    case hs73 => kernel_rfl
    case hf73 => kernel_rfl
    case hr73 => kernel_rfl
    case hQ73 => exact fun _ _ _ h => h
    case hS73 => assumption
    case hy73 =>
      refine Or.inl ⟨by kernel_rfl, ?_⟩
      intro w' hSw
      (try dsimp only at hSw)
      go_simp
      (try rfl)
    (try simp only [List.getElem_toArray, List.getElem_cons_zero, Act.put, List.setIfInBounds_toArray, List.set_cons_zero, List.set_cons_succ])
    refine wpAnyH_take (i := 2) (oi := ?o74) (v := ?v74) ?hi74 ?hs74 ?hf74 ?hr74 ?hQ74 ?hy74 ?hS74 ?rest74
    case hi74 => rfl
    case hs74 => kernel_rfl
    case hf74 => kernel_rfl
    case hr74 => kernel_rfl
    case hQ74 => exact fun _ _ _ h => h
    case hS74 => assumption
    case hy74 =>
      refine Or.inl ⟨by kernel_rfl, ?_⟩
      intro w' hSw
      (try dsimp only at hSw)
      go_simp
      (try rfl)
    (try simp only [List.getElem_toArray, List.getElem_cons_succ, List.getElem_cons_zero, Act.put, List.setIfInBounds_toArray, List.set_cons_zero, List.set_cons_succ])
    refine wpAnyH_ready (rs := [1, 8]) (by kernel_rfl) (by simp) ?_
    refine AllReadyH.cons rfl (fun K hK => ?_) (AllReadyH.cons rfl (fun K hK => ?_) AllReadyH.nil)
    · skip
      go_simp
      refine (toFrac n0 h0 l0 d0 _).mono ?_
      rintro e wc74 ⟨rfl, hBc⟩
      replace hA := box_still hA hBc
      replace hB := box_still hB hBc
      replace hX := box_still hX hBc
      replace HT := Lib.hid (bt2 HT.out hBc)
      clear hBc
      refine hK.out _ _ ?_ (fun hHeld => ?_)
      · exact ⟨cell_blk hA 0, cell_blk hA 1, cell_blk hA 2, cell_blk hA 3, cell_blk hB 0, cell_blk hB 1, cell_blk hB 2, cell_blk hB 3⟩
      clear hK K
      (try simp only [List.getElem_toArray, List.getElem_cons_succ, List.getElem_cons_zero, Act.put, List.setIfInBounds_toArray, List.set_cons_zero, List.set_cons_succ])
      refine wpAnyH_ready (rs := [3, 8]) (by kernel_rfl) (by simp) ?_
      refine AllReadyH.cons rfl (fun K hK => ?_) (AllReadyH.cons rfl (fun K hK => ?_) AllReadyH.nil)
      · skip
        go_simp
        refine (toFrac n1 h1 l1 d1 _).mono ?_
        rintro e wc75 ⟨rfl, hBc⟩
        replace hA := box_still hA hBc
        replace hB := box_still hB hBc
        replace hX := box_still hX hBc
        replace HT := Lib.hid (bt2 HT.out hBc)
        clear hBc
        refine hK.out _ _ ?_ (fun hHeld => ?_)
        · exact ⟨cell_blk hA 0, cell_blk hA 1, cell_blk hA 2, cell_blk hA 3, cell_blk hB 0, cell_blk hB 1, cell_blk hB 2, cell_blk hB 3⟩
        clear hK K
        (try simp only [List.getElem_toArray, List.getElem_cons_succ, List.getElem_cons_zero, Act.put, List.setIfInBounds_toArray, List.set_cons_zero, List.set_cons_succ])
        refine wpAnyH_ready (rs := [4, 8]) (by kernel_rfl) (by simp) ?_
        refine AllReadyH.cons rfl (fun K hK => ?_) (AllReadyH.cons rfl (fun K hK => ?_) AllReadyH.nil)
        · skip
          go_simp
          refine (implAddFrac n0 h0 l0 d0 n1 h1 l1 d1 hp0 hq0 lp0 lq0 dp0 dq0 hp1 hq1 lp1 lq1 dp1 dq1 _).mono ?_
          rintro e wc76 ⟨rfl, hBc⟩
          rw [HE.out]
          replace hA := box_still hA hBc
          replace hB := box_still hB hBc
          replace hX := box_still hX hBc
          replace HT := Lib.hid (bt2 HT.out hBc)
          clear hBc
          refine hK.out _ _ ?_ (fun hHeld => ?_)
          · exact ⟨cell_blk hA 0, cell_blk hA 1, cell_blk hA 2, cell_blk hA 3, cell_blk hB 0, cell_blk hB 1, cell_blk hB 2, cell_blk hB 3⟩
          clear hK K
          (try simp only [List.getElem_toArray, List.getElem_cons_succ, List.getElem_cons_zero, Act.put, List.setIfInBounds_toArray, List.set_cons_zero, List.set_cons_succ])
          refine wpAnyH_take (i := 5) (oi := ?o75) (v := ?v75) ?hi75 ?hs75 ?hf75 ?hr75 ?hQ75 ?hy75 ?hS75 ?rest75
          case hi75 => rfl
          case hs75 => kernel_rfl
          case hf75 => kernel_rfl
          case hr75 => kernel_rfl
          case hQ75 => exact fun _ _ _ h => h
          case hS75 => assumption
          case hy75 =>
            refine Or.inl ⟨by kernel_rfl, ?_⟩
            intro w' hSw
            (try dsimp only at hSw)
            go_simp
            (try rfl)
          (try simp only [List.getElem_toArray, List.getElem_cons_succ, List.getElem_cons_zero, Act.put, List.setIfInBounds_toArray, List.set_cons_zero, List.set_cons_succ])
          refine wpAnyH_take (i := 6) (oi := ?o76) (v := ?v76) ?hi76 ?hs76 ?hf76 ?hr76 ?hQ76 ?hy76 ?hS76 ?rest76
          case hi76 => rfl
          case hs76 => kernel_rfl
          case hf76 => kernel_rfl
          case hr76 => kernel_rfl
          case hQ76 => exact fun _ _ _ h => h
          case hS76 => assumption
          case hy76 =>
            refine Or.inl ⟨by kernel_rfl, ?_⟩
            intro w' hSw
            (try dsimp only at hSw)
            go_simp
            (try rfl)
          (try simp only [List.getElem_toArray, List.getElem_cons_succ, List.getElem_cons_zero, Act.put, List.setIfInBounds_toArray, List.set_cons_zero, List.set_cons_succ])
          refine wpAnyH_take (i := 7) (oi := ?o77) (v := ?v77) ?hi77 ?hs77 ?hf77 ?hr77 ?hQ77 ?hy77 ?hS77 ?rest77
          case hi77 => rfl
          case hs77 => kernel_rfl
          case hf77 => kernel_rfl
          case hr77 => kernel_rfl
          case hQ77 => exact fun _ _ _ h => h
          case hS77 => assumption
          case hy77 =>
            refine Or.inl ⟨by kernel_rfl, ?_⟩
            intro w' hSw
            (try dsimp only at hSw)
            go_simp
            (try rfl)
          (try simp only [List.getElem_toArray, List.getElem_cons_succ, List.getElem_cons_zero, Act.put, List.setIfInBounds_toArray, List.set_cons_zero, List.set_cons_succ])
          refine wpAnyH_ready (rs := [8]) (by kernel_rfl) (by simp) ?_
          refine AllReadyH.cons rfl (fun K hK => ?_) AllReadyH.nil
          go_simp
          have hN := box_new wc76 (.cells #[.bool false, .int .u64 0, .int .u64 0, .int .i64 0] 28)
          have hn1 : w.heap.size + 1 < wc76.heap.size := blkF hB
          have hn2 : X1 < wc76.heap.size := blkF hX
          replace hA := blkAl hA (.cells #[.bool false, .int .u64 0, .int .u64 0, .int .i64 0] 28)
          replace hB := blkAl hB (.cells #[.bool false, .int .u64 0, .int .u64 0, .int .i64 0] 28)
          replace hX := blkAl hX (.cells #[.bool false, .int .u64 0, .int .u64 0, .int .i64 0] 28)
          replace HT := Lib.hid (HT.out.alloc HT.out.size (.cells #[.bool false, .int .u64 0, .int .u64 0, .int .i64 0] 28))
          refine hK.out _ _ ?_ (fun hHeld => ?_)
          · exact ⟨cell_blk hA 0, cell_blk hA 1, cell_blk hA 2, cell_blk hA 3, cell_blk hB 0, cell_blk hB 1, cell_blk hB 2, cell_blk hB 3⟩
          clear hK K
          (try simp only [List.getElem_toArray, List.getElem_cons_succ, List.getElem_cons_zero, Act.put, List.setIfInBounds_toArray, List.set_cons_zero, List.set_cons_succ])
          generalize (wc76.alloc (.cells #[.bool false, .int .u64 0, .int .u64 0, .int .i64 0] 28)) = wa77 at hA hB hX hN HT hHeld ⊢
          generalize wc76.heap.size = X2 at hN hn1 hn2 ⊢
          have cN0 : wa77.cell? ⟨X2, 0, none⟩ = some (.bool false) := cell_blk hN 0
          have cN1 : wa77.cell? ⟨X2, 1, none⟩ = some (.int .u64 0) := cell_blk hN 1
          have cN2 : wa77.cell? ⟨X2, 2, none⟩ = some (.int .u64 0) := cell_blk hN 2
          have cN3 : wa77.cell? ⟨X2, 3, none⟩ = some (.int .i64 0) := cell_blk hN 3
          have fN := free_blk hN
          have lN := blkF hN
          refine wpAnyH_ready (rs := [9]) (by kernel_rfl) (by simp) ?_
          refine AllReadyH.cons rfl (fun K hK => ?_) AllReadyH.nil
          go_simp
          replace hA := (st4_blk_farF (.bool n) (.int .u64 h) (.int .u64 l) (.int .i64 k) (show X2 ≠ w.heap.size by omega)).trans hA
          replace hB := (st4_blk_farF (.bool n) (.int .u64 h) (.int .u64 l) (.int .i64 k) (show X2 ≠ w.heap.size + 1 by omega)).trans hB
          replace hX := (st4_blk_farF (.bool n) (.int .u64 h) (.int .u64 l) (.int .i64 k) (show X2 ≠ X1 by omega)).trans hX
          have hM := st4_blkF (b0 := .bool n) (b1 := .int .u64 h) (b2 := .int .u64 l) (b3 := .int .i64 k) hN
          replace HT := Lib.hid (st4_belowF (X := X2) HT.out (by omega) (.bool n) (.int .u64 h) (.int .u64 l) (.int .i64 k))
          clear hN cN0 cN1 cN2 cN3 fN lN
          refine hK.out _ _ ?_ (fun hHeld => ?_)
          · exact ⟨cell_blk hA 0, cell_blk hA 1, cell_blk hA 2, cell_blk hA 3, cell_blk hB 0, cell_blk hB 1, cell_blk hB 2, cell_blk hB 3⟩
          clear hK K
          (try simp only [List.getElem_toArray, List.getElem_cons_succ, List.getElem_cons_zero, Act.put, List.setIfInBounds_toArray, List.set_cons_zero, List.set_cons_succ])
          generalize ((((wa77.setCell ⟨X2, 0, none⟩ (.bool n)).setCell ⟨X2, 1, none⟩ (.int .u64 h)).setCell ⟨X2, 2, none⟩ (.int .u64 l)).setCell ⟨X2, 3, none⟩ (.int .i64 k)) = ws78 at hA hB hX hM HT hHeld ⊢
          refine wpAnyH_take (i := 10) (oi := ?o78) (v := ?v78) ?hi78 ?hs78 ?hf78 ?hr78 ?hQ78 ?hy78 ?hS78 ?rest78
          case hi78 => rfl
          case hs78 => kernel_rfl
          case hf78 => kernel_rfl
          case hr78 => kernel_rfl
          case hQ78 => exact fun _ _ _ h => h
          case hS78 => assumption
          case hy78 =>
            refine Or.inl ⟨by kernel_rfl, ?_⟩
            intro w' hSw
            (try dsimp only at hSw)
            go_simp
            (try rfl)
          (try simp only [List.getElem_toArray, List.getElem_cons_succ, List.getElem_cons_zero, Act.put, List.setIfInBounds_toArray, List.set_cons_zero, List.set_cons_succ])
          refine wpAnyH_done (by kernel_rfl) ?_ _
          refine NoPanic.normal ?_
          have hx1 := blkF hX
          have hx2 := blkF hM
          have cX0 : ws78.cell? ⟨X1, 0, none⟩ = some (.bool n) := cell_blk hX 0
          have cX1 : ws78.cell? ⟨X1, 1, none⟩ = some (.int .u64 h) := cell_blk hX 1
          have cX2 : ws78.cell? ⟨X1, 2, none⟩ = some (.int .u64 l) := cell_blk hX 2
          have cX3 : ws78.cell? ⟨X1, 3, none⟩ = some (.int .i64 k) := cell_blk hX 3
          have cM0 : ws78.cell? ⟨X2, 0, none⟩ = some (.bool n) := cell_blk hM 0
          have cM1 : ws78.cell? ⟨X2, 1, none⟩ = some (.int .u64 h) := cell_blk hM 1
          have cM2 : ws78.cell? ⟨X2, 2, none⟩ = some (.int .u64 l) := cell_blk hM 2
          have cM3 : ws78.cell? ⟨X2, 3, none⟩ = some (.int .i64 k) := cell_blk hM 3
          go_wp2_with fail
          refine (eqFrac_same n h l k _).mono ?_
          rintro e w9 ⟨rfl, hB9⟩
          replace HT := Lib.hid (bt2 HT.out hB9)
          clear hB9
          go_wp2_with fail
          all_goals first
            | (go_ret; exact ⟨rfl, HT.out⟩)
            | (exfalso; simp_all; done)
        · skip
          go_simp
          have hN := box_new wc75 (.cells #[.bool false, .int .u64 0, .int .u64 0, .int .i64 0] 28)
          have hn1 : w.heap.size + 1 < wc75.heap.size := blkF hB
          have hn2 : X1 < wc75.heap.size := blkF hX
          replace hA := blkAl hA (.cells #[.bool false, .int .u64 0, .int .u64 0, .int .i64 0] 28)
          replace hB := blkAl hB (.cells #[.bool false, .int .u64 0, .int .u64 0, .int .i64 0] 28)
          replace hX := blkAl hX (.cells #[.bool false, .int .u64 0, .int .u64 0, .int .i64 0] 28)
          replace HT := Lib.hid (HT.out.alloc HT.out.size (.cells #[.bool false, .int .u64 0, .int .u64 0, .int .i64 0] 28))
          refine hK.out _ _ ?_ (fun hHeld => ?_)
          · exact ⟨cell_blk hA 0, cell_blk hA 1, cell_blk hA 2, cell_blk hA 3, cell_blk hB 0, cell_blk hB 1, cell_blk hB 2, cell_blk hB 3⟩
          clear hK K
          (try simp only [List.getElem_toArray, List.getElem_cons_succ, List.getElem_cons_zero, Act.put, List.setIfInBounds_toArray, List.set_cons_zero, List.set_cons_succ])
          generalize (wc75.alloc (.cells #[.bool false, .int .u64 0, .int .u64 0, .int .i64 0] 28)) = wa79 at hA hB hX hN HT hHeld ⊢
          generalize wc75.heap.size = X2 at hN hn1 hn2 ⊢
          refine wpAnyH_ready (rs := [4]) (by kernel_rfl) (by simp) ?_
          refine AllReadyH.cons rfl (fun K hK => ?_) AllReadyH.nil
          go_simp
          refine (implAddFrac n0 h0 l0 d0 n1 h1 l1 d1 hp0 hq0 lp0 lq0 dp0 dq0 hp1 hq1 lp1 lq1 dp1 dq1 _).mono ?_
          rintro e wc80 ⟨rfl, hBc⟩
          rw [HE.out]
          replace hA := box_still hA hBc
          replace hB := box_still hB hBc
          replace hX := box_still hX hBc
          replace hN := box_still hN hBc
          replace HT := Lib.hid (bt2 HT.out hBc)
          clear hBc
          refine hK.out _ _ ?_ (fun hHeld => ?_)
          · exact ⟨cell_blk hA 0, cell_blk hA 1, cell_blk hA 2, cell_blk hA 3, cell_blk hB 0, cell_blk hB 1, cell_blk hB 2, cell_blk hB 3⟩
          clear hK K
          (try simp only [List.getElem_toArray, List.getElem_cons_succ, List.getElem_cons_zero, Act.put, List.setIfInBounds_toArray, List.set_cons_zero, List.set_cons_succ])
          refine wpAnyH_take (i := 5) (oi := ?o79) (v := ?v79) ?hi79 ?hs79 ?hf79 ?hr79 ?hQ79 ?hy79 ?hS79 ?rest79
          case hi79 => rfl
          case hs79 => kernel_rfl
          case hf79 => kernel_rfl
          case hr79 => kernel_rfl
          case hQ79 => exact fun _ _ _ h => h
          case hS79 => assumption
          case hy79 =>
            refine Or.inl ⟨by kernel_rfl, ?_⟩
            intro w' hSw
            (try dsimp only at hSw)
            go_simp
            (try rfl)
          (try simp only [List.getElem_toArray, List.getElem_cons_succ, List.getElem_cons_zero, Act.put, List.setIfInBounds_toArray, List.set_cons_zero, List.set_cons_succ])
          refine wpAnyH_take (i := 6) (oi := ?o80) (v := ?v80) ?hi80 ?hs80 ?hf80 ?hr80 ?hQ80 ?hy80 ?hS80 ?rest80
          case hi80 => rfl
          case hs80 => kernel_rfl
          case hf80 => kernel_rfl
          case hr80 => kernel_rfl
          case hQ80 => exact fun _ _ _ h => h
          case hS80 => assumption
          case hy80 =>
            refine Or.inl ⟨by kernel_rfl, ?_⟩
            intro w' hSw
            (try dsimp only at hSw)
            go_simp
            (try rfl)
          (try simp only [List.getElem_toArray, List.getElem_cons_succ, List.getElem_cons_zero, Act.put, List.setIfInBounds_toArray, List.set_cons_zero, List.set_cons_succ])
          refine wpAnyH_take (i := 7) (oi := ?o81) (v := ?v81) ?hi81 ?hs81 ?hf81 ?hr81 ?hQ81 ?hy81 ?hS81 ?rest81
          case hi81 => rfl
          case hs81 => kernel_rfl
          case hf81 => kernel_rfl
          case hr81 => kernel_rfl
          case hQ81 => exact fun _ _ _ h => h
          case hS81 => assumption
          case hy81 =>
            refine Or.inl ⟨by kernel_rfl, ?_⟩
            intro w' hSw
            (try dsimp only at hSw)
            go_simp
            (try rfl)
          (try simp only [List.getElem_toArray, List.getElem_cons_succ, List.getElem_cons_zero, Act.put, List.setIfInBounds_toArray, List.set_cons_zero, List.set_cons_succ])
          have cN0 : wc80.cell? ⟨X2, 0, none⟩ = some (.bool false) := cell_blk hN 0
          have cN1 : wc80.cell? ⟨X2, 1, none⟩ = some (.int .u64 0) := cell_blk hN 1
          have cN2 : wc80.cell? ⟨X2, 2, none⟩ = some (.int .u64 0) := cell_blk hN 2
          have cN3 : wc80.cell? ⟨X2, 3, none⟩ = some (.int .i64 0) := cell_blk hN 3
          have fN := free_blk hN
          have lN := blkF hN
          refine wpAnyH_ready (rs := [9]) (by kernel_rfl) (by simp) ?_
          refine AllReadyH.cons rfl (fun K hK => ?_) AllReadyH.nil
          go_simp
          replace hA := (st4_blk_farF (.bool n) (.int .u64 h) (.int .u64 l) (.int .i64 k) (show X2 ≠ w.heap.size by omega)).trans hA
          replace hB := (st4_blk_farF (.bool n) (.int .u64 h) (.int .u64 l) (.int .i64 k) (show X2 ≠ w.heap.size + 1 by omega)).trans hB
          replace hX := (st4_blk_farF (.bool n) (.int .u64 h) (.int .u64 l) (.int .i64 k) (show X2 ≠ X1 by omega)).trans hX
          have hM := st4_blkF (b0 := .bool n) (b1 := .int .u64 h) (b2 := .int .u64 l) (b3 := .int .i64 k) hN
          replace HT := Lib.hid (st4_belowF (X := X2) HT.out (by omega) (.bool n) (.int .u64 h) (.int .u64 l) (.int .i64 k))
          clear hN cN0 cN1 cN2 cN3 fN lN
          refine hK.out _ _ ?_ (fun hHeld => ?_)
          · exact ⟨cell_blk hA 0, cell_blk hA 1, cell_blk hA 2, cell_blk hA 3, cell_blk hB 0, cell_blk hB 1, cell_blk hB 2, cell_blk hB 3⟩
          clear hK K
          (try simp only [List.getElem_toArray, List.getElem_cons_succ, List.getElem_cons_zero, Act.put, List.setIfInBounds_toArray, List.set_cons_zero, List.set_cons_succ])
          generalize ((((wc80.setCell ⟨X2, 0, none⟩ (.bool n)).setCell ⟨X2, 1, none⟩ (.int .u64 h)).setCell ⟨X2, 2, none⟩ (.int .u64 l)).setCell ⟨X2, 3, none⟩ (.int .i64 k)) = ws81 at hA hB hX hM HT hHeld ⊢
          refine wpAnyH_take (i := 10) (oi := ?o82) (v := ?v82) ?hi82 ?hs82 ?hf82 ?hr82 ?hQ82 ?hy82 ?hS82 ?rest82
          case hi82 => rfl
          case hs82 => kernel_rfl
          case hf82 => kernel_rfl
          case hr82 => kernel_rfl
          case hQ82 => exact fun _ _ _ h => h
          case hS82 => assumption
          case hy82 =>
            refine Or.inl ⟨by kernel_rfl, ?_⟩
            intro w' hSw
            (try dsimp only at hSw)
            go_simp
            (try rfl)
          (try simp only [List.getElem_toArray, List.getElem_cons_succ, List.getElem_cons_zero, Act.put, List.setIfInBounds_toArray, List.set_cons_zero, List.set_cons_succ])
          refine wpAnyH_done (by kernel_rfl) ?_ _
          refine NoPanic.normal ?_
          have hx1 := blkF hX
          have hx2 := blkF hM
          have cX0 : ws81.cell? ⟨X1, 0, none⟩ = some (.bool n) := cell_blk hX 0
          have cX1 : ws81.cell? ⟨X1, 1, none⟩ = some (.int .u64 h) := cell_blk hX 1
          have cX2 : ws81.cell? ⟨X1, 2, none⟩ = some (.int .u64 l) := cell_blk hX 2
          have cX3 : ws81.cell? ⟨X1, 3, none⟩ = some (.int .i64 k) := cell_blk hX 3
          have cM0 : ws81.cell? ⟨X2, 0, none⟩ = some (.bool n) := cell_blk hM 0
          have cM1 : ws81.cell? ⟨X2, 1, none⟩ = some (.int .u64 h) := cell_blk hM 1
          have cM2 : ws81.cell? ⟨X2, 2, none⟩ = some (.int .u64 l) := cell_blk hM 2
          have cM3 : ws81.cell? ⟨X2, 3, none⟩ = some (.int .i64 k) := cell_blk hM 3
          go_wp2_with fail
          refine (eqFrac_same n h l k _).mono ?_
          rintro e w9 ⟨rfl, hB9⟩
          replace HT := Lib.hid (bt2 HT.out hB9)
          clear hB9
          go_wp2_with fail
          all_goals first
            | (go_ret; exact ⟨rfl, HT.out⟩)
            | (exfalso; simp_all; done)
      · skip
        go_simp
        have hN := box_new wc74 (.cells #[.bool false, .int .u64 0, .int .u64 0, .int .i64 0] 28)
        have hn1 : w.heap.size + 1 < wc74.heap.size := blkF hB
        have hn2 : X1 < wc74.heap.size := blkF hX
        replace hA := blkAl hA (.cells #[.bool false, .int .u64 0, .int .u64 0, .int .i64 0] 28)
        replace hB := blkAl hB (.cells #[.bool false, .int .u64 0, .int .u64 0, .int .i64 0] 28)
        replace hX := blkAl hX (.cells #[.bool false, .int .u64 0, .int .u64 0, .int .i64 0] 28)
        replace HT := Lib.hid (HT.out.alloc HT.out.size (.cells #[.bool false, .int .u64 0, .int .u64 0, .int .i64 0] 28))
        refine hK.out _ _ ?_ (fun hHeld => ?_)
        · exact ⟨cell_blk hA 0, cell_blk hA 1, cell_blk hA 2, cell_blk hA 3, cell_blk hB 0, cell_blk hB 1, cell_blk hB 2, cell_blk hB 3⟩
        clear hK K
        (try simp only [List.getElem_toArray, List.getElem_cons_succ, List.getElem_cons_zero, Act.put, List.setIfInBounds_toArray, List.set_cons_zero, List.set_cons_succ])
        generalize (wc74.alloc (.cells #[.bool false, .int .u64 0, .int .u64 0, .int .i64 0] 28)) = wa82 at hA hB hX hN HT hHeld ⊢
        generalize wc74.heap.size = X2 at hN hn1 hn2 ⊢
        refine wpAnyH_ready (rs := [3]) (by kernel_rfl) (by simp) ?_
        refine AllReadyH.cons rfl (fun K hK => ?_) AllReadyH.nil
        go_simp
        refine (toFrac n1 h1 l1 d1 _).mono ?_
        rintro e wc83 ⟨rfl, hBc⟩
        replace hA := box_still hA hBc
        replace hB := box_still hB hBc
        replace hX := box_still hX hBc
        replace hN := box_still hN hBc
        replace HT := Lib.hid (bt2 HT.out hBc)
        clear hBc
        refine hK.out _ _ ?_ (fun hHeld => ?_)
        · exact ⟨cell_blk hA 0, cell_blk hA 1, cell_blk hA 2, cell_blk hA 3, cell_blk hB 0, cell_blk hB 1, cell_blk hB 2, cell_blk hB 3⟩
        clear hK K
        (try simp only [List.getElem_toArray, List.getElem_cons_succ, List.getElem_cons_zero, Act.put, List.setIfInBounds_toArray, List.set_cons_zero, List.set_cons_succ])
        refine wpAnyH_ready (rs := [4]) (by kernel_rfl) (by simp) ?_
        refine AllReadyH.cons rfl (fun K hK => ?_) AllReadyH.nil
        go_simp
        refine (implAddFrac n0 h0 l0 d0 n1 h1 l1 d1 hp0 hq0 lp0 lq0 dp0 dq0 hp1 hq1 lp1 lq1 dp1 dq1 _).mono ?_
        rintro e wc84 ⟨rfl, hBc⟩
        rw [HE.out]
        replace hA := box_still hA hBc
        replace hB := box_still hB hBc
        replace hX := box_still hX hBc
        replace hN := box_still hN hBc
        replace HT := Lib.hid (bt2 HT.out hBc)
        clear hBc
        refine hK.out _ _ ?_ (fun hHeld => ?_)
        · exact ⟨cell_blk hA 0, cell_blk hA 1, cell_blk hA 2, cell_blk hA 3, cell_blk hB 0, cell_blk hB 1, cell_blk hB 2, cell_blk hB 3⟩
        clear hK K
        (try simp only [List.getElem_toArray, List.getElem_cons_succ, List.getElem_cons_zero, Act.put, List.setIfInBounds_toArray, List.set_cons_zero, List.set_cons_succ])
        refine wpAnyH_take (i := 5) (oi := ?o83) (v := ?v83) ?hi83 ?hs83 ?hf83 ?hr83 ?hQ83 ?hy83 ?hS83 ?rest83
        case hi83 => rfl
        case hs83 => kernel_rfl
        case hf83 => kernel_rfl
        case hr83 => kernel_rfl
        case hQ83 => exact fun _ _ _ h => h
        case hS83 => assumption
        case hy83 =>
          refine Or.inl ⟨by kernel_rfl, ?_⟩
          intro w' hSw
          (try dsimp only at hSw)
          go_simp
          (try rfl)
        (try simp only [List.getElem_toArray, List.getElem_cons_succ, List.getElem_cons_zero, Act.put, List.setIfInBounds_toArray, List.set_cons_zero, List.set_cons_succ])
        refine wpAnyH_take (i := 6) (oi := ?o84) (v := ?v84) ?hi84 ?hs84 ?hf84 ?hr84 ?hQ84 ?hy84 ?hS84 ?rest84
        case hi84 => rfl
        case hs84 => kernel_rfl
        case hf84 => kernel_rfl
        case hr84 => kernel_rfl
        case hQ84 => exact fun _ _ _ h => h
        case hS84 => assumption
        case hy84 =>
          refine Or.inl ⟨by kernel_rfl, ?_⟩
          intro w' hSw
          (try dsimp only at hSw)
          go_simp
          (try rfl)
        (try simp only [List.getElem_toArray, List.getElem_cons_succ, List.getElem_cons_zero, Act.put, List.setIfInBounds_toArray, List.set_cons_zero, List.set_cons_succ])
        refine wpAnyH_take (i := 7) (oi := ?o85) (v := ?v85) ?hi85 ?hs85 ?hf85 ?hr85 ?hQ85 ?hy85 ?hS85 ?rest85
        case hi85 => rfl
        case hs85 => kernel_rfl
        case hf85 => kernel_rfl
        case hr85 => kernel_rfl
        case hQ85 => exact fun _ _ _ h => h
        case hS85 => assumption
        case hy85 =>
          refine Or.inl ⟨by kernel_rfl, ?_⟩
          intro w' hSw
          (try dsimp only at hSw)
          go_simp
          (try rfl)
        (try simp only [List.getElem_toArray, List.getElem_cons_succ, List.getElem_cons_zero, Act.put, List.setIfInBounds_toArray, List.set_cons_zero, List.set_cons_succ])
        have cN0 : wc84.cell? ⟨X2, 0, none⟩ = some (.bool false) := cell_blk hN 0
        have cN1 : wc84.cell? ⟨X2, 1, none⟩ = some (.int .u64 0) := cell_blk hN 1
        have cN2 : wc84.cell? ⟨X2, 2, none⟩ = some (.int .u64 0) := cell_blk hN 2
        have cN3 : wc84.cell? ⟨X2, 3, none⟩ = some (.int .i64 0) := cell_blk hN 3
        have fN := free_blk hN
        have lN := blkF hN
        refine wpAnyH_ready (rs := [9]) (by kernel_rfl) (by simp) ?_
        refine AllReadyH.cons rfl (fun K hK => ?_) AllReadyH.nil
        go_simp
        replace hA := (st4_blk_farF (.bool n) (.int .u64 h) (.int .u64 l) (.int .i64 k) (show X2 ≠ w.heap.size by omega)).trans hA
        replace hB := (st4_blk_farF (.bool n) (.int .u64 h) (.int .u64 l) (.int .i64 k) (show X2 ≠ w.heap.size + 1 by omega)).trans hB
        replace hX := (st4_blk_farF (.bool n) (.int .u64 h) (.int .u64 l) (.int .i64 k) (show X2 ≠ X1 by omega)).trans hX
        have hM := st4_blkF (b0 := .bool n) (b1 := .int .u64 h) (b2 := .int .u64 l) (b3 := .int .i64 k) hN
        replace HT := Lib.hid (st4_belowF (X := X2) HT.out (by omega) (.bool n) (.int .u64 h) (.int .u64 l) (.int .i64 k))
        clear hN cN0 cN1 cN2 cN3 fN lN
        refine hK.out _ _ ?_ (fun hHeld => ?_)
        · exact ⟨cell_blk hA 0, cell_blk hA 1, cell_blk hA 2, cell_blk hA 3, cell_blk hB 0, cell_blk hB 1, cell_blk hB 2, cell_blk hB 3⟩
        clear hK K
        (try simp only [List.getElem_toArray, List.getElem_cons_succ, List.getElem_cons_zero, Act.put, List.setIfInBounds_toArray, List.set_cons_zero, List.set_cons_succ])
        generalize ((((wc84.setCell ⟨X2, 0, none⟩ (.bool n)).setCell ⟨X2, 1, none⟩ (.int .u64 h)).setCell ⟨X2, 2, none⟩ (.int .u64 l)).setCell ⟨X2, 3, none⟩ (.int .i64 k)) = ws85 at hA hB hX hM HT hHeld ⊢
        refine wpAnyH_take (i := 10) (oi := ?o86) (v := ?v86) ?hi86 ?hs86 ?hf86 ?hr86 ?hQ86 ?hy86 ?hS86 ?rest86
        case hi86 => rfl
        case hs86 => kernel_rfl
        case hf86 => kernel_rfl
        case hr86 => kernel_rfl
        case hQ86 => exact fun _ _ _ h => h
        case hS86 => assumption
        case hy86 =>
          refine Or.inl ⟨by kernel_rfl, ?_⟩
          intro w' hSw
          (try dsimp only at hSw)
          go_simp
          (try rfl)
        (try simp only [List.getElem_toArray, List.getElem_cons_succ, List.getElem_cons_zero, Act.put, List.setIfInBounds_toArray, List.set_cons_zero, List.set_cons_succ])
        refine wpAnyH_done (by kernel_rfl) ?_ _
        refine NoPanic.normal ?_
        have hx1 := blkF hX
        have hx2 := blkF hM
        have cX0 : ws85.cell? ⟨X1, 0, none⟩ = some (.bool n) := cell_blk hX 0
        have cX1 : ws85.cell? ⟨X1, 1, none⟩ = some (.int .u64 h) := cell_blk hX 1
        have cX2 : ws85.cell? ⟨X1, 2, none⟩ = some (.int .u64 l) := cell_blk hX 2
        have cX3 : ws85.cell? ⟨X1, 3, none⟩ = some (.int .i64 k) := cell_blk hX 3
        have cM0 : ws85.cell? ⟨X2, 0, none⟩ = some (.bool n) := cell_blk hM 0
        have cM1 : ws85.cell? ⟨X2, 1, none⟩ = some (.int .u64 h) := cell_blk hM 1
        have cM2 : ws85.cell? ⟨X2, 2, none⟩ = some (.int .u64 l) := cell_blk hM 2
        have cM3 : ws85.cell? ⟨X2, 3, none⟩ = some (.int .i64 k) := cell_blk hM 3
        go_wp2_with fail
        refine (eqFrac_same n h l k _).mono ?_
        rintro e w9 ⟨rfl, hB9⟩
        replace HT := Lib.hid (bt2 HT.out hB9)
        clear hB9
        go_wp2_with fail
        all_goals first
          | (go_ret; exact ⟨rfl, HT.out⟩)
          | (exfalso; simp_all; done)
    · skip
      go_simp
      have hN := box_new wd73 (.cells #[.bool false, .int .u64 0, .int .u64 0, .int .i64 0] 28)
      have hn1 : w.heap.size + 1 < wd73.heap.size := blkF hB
      have hn2 : X1 < wd73.heap.size := blkF hX
      replace hA := blkAl hA (.cells #[.bool false, .int .u64 0, .int .u64 0, .int .i64 0] 28)
      replace hB := blkAl hB (.cells #[.bool false, .int .u64 0, .int .u64 0, .int .i64 0] 28)
      replace hX := blkAl hX (.cells #[.bool false, .int .u64 0, .int .u64 0, .int .i64 0] 28)
      replace HT := Lib.hid (HT.out.alloc HT.out.size (.cells #[.bool false, .int .u64 0, .int .u64 0, .int .i64 0] 28))
      refine hK.out _ _ ?_ (fun hHeld => ?_)
      · exact ⟨cell_blk hA 0, cell_blk hA 1, cell_blk hA 2, cell_blk hA 3, cell_blk hB 0, cell_blk hB 1, cell_blk hB 2, cell_blk hB 3⟩
      clear hK K
      (try simp only [List.getElem_toArray, List.getElem_cons_succ, List.getElem_cons_zero, Act.put, List.setIfInBounds_toArray, List.set_cons_zero, List.set_cons_succ])
      generalize (wd73.alloc (.cells #[.bool false, .int .u64 0, .int .u64 0, .int .i64 0] 28)) = wa86 at hA hB hX hN HT hHeld ⊢
      generalize wd73.heap.size = X2 at hN hn1 hn2 ⊢
      refine wpAnyH_ready (rs := [1]) (by kernel_rfl) (by simp) ?_
      refine AllReadyH.cons rfl (fun K hK => ?_) AllReadyH.nil
      go_simp
      refine (toFrac n0 h0 l0 d0 _).mono ?_
      rintro e wc87 ⟨rfl, hBc⟩
      replace hA := box_still hA hBc
      replace hB := box_still hB hBc
      replace hX := box_still hX hBc
      replace hN := box_still hN hBc
      replace HT := Lib.hid (bt2 HT.out hBc)
      clear hBc
      refine hK.out _ _ ?_ (fun hHeld => ?_)
      · exact ⟨cell_blk hA 0, cell_blk hA 1, cell_blk hA 2, cell_blk hA 3, cell_blk hB 0, cell_blk hB 1, cell_blk hB 2, cell_blk hB 3⟩
      clear hK K
      (try simp only [List.getElem_toArray, List.getElem_cons_succ, List.getElem_cons_zero, Act.put, List.setIfInBounds_toArray, List.set_cons_zero, List.set_cons_succ])
      refine wpAnyH_ready (rs := [3]) (by kernel_rfl) (by simp) ?_
      refine AllReadyH.cons rfl (fun K hK => ?_) AllReadyH.nil
      go_simp
      refine (toFrac n1 h1 l1 d1 _).mono ?_
      rintro e wc88 ⟨rfl, hBc⟩
      replace hA := box_still hA hBc
      replace hB := box_still hB hBc
      replace hX := box_still hX hBc
      replace hN := box_still hN hBc
      replace HT := Lib.hid (bt2 HT.out hBc)
      clear hBc
      refine hK.out _ _ ?_ (fun hHeld => ?_)
      · exact ⟨cell_blk hA 0, cell_blk hA 1, cell_blk hA 2, cell_blk hA 3, cell_blk hB 0, cell_blk hB 1, cell_blk hB 2, cell_blk hB 3⟩
      clear hK K
      (try simp only [List.getElem_toArray, List.getElem_cons_succ, List.getElem_cons_zero, Act.put, List.setIfInBounds_toArray, List.set_cons_zero, List.set_cons_succ])
      refine wpAnyH_ready (rs := [4]) (by kernel_rfl) (by simp) ?_
      refine AllReadyH.cons rfl (fun K hK => ?_) AllReadyH.nil
      go_simp
      refine (implAddFrac n0 h0 l0 d0 n1 h1 l1 d1 hp0 hq0 lp0 lq0 dp0 dq0 hp1 hq1 lp1 lq1 dp1 dq1 _).mono ?_
      rintro e wc89 ⟨rfl, hBc⟩
      rw [HE.out]
      replace hA := box_still hA hBc
      replace hB := box_still hB hBc
      replace hX := box_still hX hBc
      replace hN := box_still hN hBc
      replace HT := Lib.hid (bt2 HT.out hBc)
      clear hBc
      refine hK.out _ _ ?_ (fun hHeld => ?_)
      · exact ⟨cell_blk hA 0, cell_blk hA 1, cell_blk hA 2, cell_blk hA 3, cell_blk hB 0, cell_blk hB 1, cell_blk hB 2, cell_blk hB 3⟩
      clear hK K
      (try simp only [List.getElem_toArray, List.getElem_cons_succ, List.getElem_cons_zero, Act.put, List.setIfInBounds_toArray, List.set_cons_zero, List.set_cons_succ])
      refine wpAnyH_take (i := 5) (oi := ?o87) (v := ?v87) ?hi87 ?hs87 ?hf87 ?hr87 ?hQ87 ?hy87 ?hS87 ?rest87
      case hi87 => rfl
      case hs87 => kernel_rfl
      case hf87 => kernel_rfl
      case hr87 => kernel_rfl
      case hQ87 => exact fun _ _ _ h => h
      case hS87 => assumption
      case hy87 =>
        refine Or.inl ⟨by kernel_rfl, ?_⟩
        intro w' hSw
        (try dsimp only at hSw)
        go_simp
        (try rfl)
      (try simp only [List.getElem_toArray, List.getElem_cons_succ, List.getElem_cons_zero, Act.put, List.setIfInBounds_toArray, List.set_cons_zero, List.set_cons_succ])
      refine wpAnyH_take (i := 6) (oi := ?o88) (v := ?v88) ?hi88 ?hs88 ?hf88 ?hr88 ?hQ88 ?hy88 ?hS88 ?rest88
      case hi88 => rfl
      case hs88 => kernel_rfl
      case hf88 => kernel_rfl
      case hr88 => kernel_rfl
      case hQ88 => exact fun _ _ _ h => h
      case hS88 => assumption
      case hy88 =>
        refine Or.inl ⟨by kernel_rfl, ?_⟩
        intro w' hSw
        (try dsimp only at hSw)
        go_simp
        (try rfl)
      (try simp only [List.getElem_toArray, List.getElem_cons_succ, List.getElem_cons_zero, Act.put, List.setIfInBounds_toArray, List.set_cons_zero, List.set_cons_succ])
      refine wpAnyH_take (i := 7) (oi := ?o89) (v := ?v89) ?hi89 ?hs89 ?hf89 ?hr89 ?hQ89 ?hy89 ?hS89 ?rest89
      case hi89 => rfl
      case hs89 => kernel_rfl
      case hf89 => kernel_rfl
      case hr89 => kernel_rfl
      case hQ89 => exact fun _ _ _ h => h
      case hS89 => assumption
      case hy89 =>
        refine Or.inl ⟨by kernel_rfl, ?_⟩
        intro w' hSw
        (try dsimp only at hSw)
        go_simp
        (try rfl)
      (try simp only [List.getElem_toArray, List.getElem_cons_succ, List.getElem_cons_zero, Act.put, List.setIfInBounds_toArray, List.set_cons_zero, List.set_cons_succ])
      have cN0 : wc89.cell? ⟨X2, 0, none⟩ = some (.bool false) := cell_blk hN 0
      have cN1 : wc89.cell? ⟨X2, 1, none⟩ = some (.int .u64 0) := cell_blk hN 1
      have cN2 : wc89.cell? ⟨X2, 2, none⟩ = some (.int .u64 0) := cell_blk hN 2
      have cN3 : wc89.cell? ⟨X2, 3, none⟩ = some (.int .i64 0) := cell_blk hN 3
      have fN := free_blk hN
      have lN := blkF hN
      refine wpAnyH_ready (rs := [9]) (by kernel_rfl) (by simp) ?_
      refine AllReadyH.cons rfl (fun K hK => ?_) AllReadyH.nil
      go_simp
      replace hA := (st4_blk_farF (.bool n) (.int .u64 h) (.int .u64 l) (.int .i64 k) (show X2 ≠ w.heap.size by omega)).trans hA
      replace hB := (st4_blk_farF (.bool n) (.int .u64 h) (.int .u64 l) (.int .i64 k) (show X2 ≠ w.heap.size + 1 by omega)).trans hB
      replace hX := (st4_blk_farF (.bool n) (.int .u64 h) (.int .u64 l) (.int .i64 k) (show X2 ≠ X1 by omega)).trans hX
      have hM := st4_blkF (b0 := .bool n) (b1 := .int .u64 h) (b2 := .int .u64 l) (b3 := .int .i64 k) hN
      replace HT := Lib.hid (st4_belowF (X := X2) HT.out (by omega) (.bool n) (.int .u64 h) (.int .u64 l) (.int .i64 k))
      clear hN cN0 cN1 cN2 cN3 fN lN
      refine hK.out _ _ ?_ (fun hHeld => ?_)
      · exact ⟨cell_blk hA 0, cell_blk hA 1, cell_blk hA 2, cell_blk hA 3, cell_blk hB 0, cell_blk hB 1, cell_blk hB 2, cell_blk hB 3⟩
      clear hK K
      (try simp only [List.getElem_toArray, List.getElem_cons_succ, List.getElem_cons_zero, Act.put, List.setIfInBounds_toArray, List.set_cons_zero, List.set_cons_succ])
      generalize ((((wc89.setCell ⟨X2, 0, none⟩ (.bool n)).setCell ⟨X2, 1, none⟩ (.int .u64 h)).setCell ⟨X2, 2, none⟩ (.int .u64 l)).setCell ⟨X2, 3, none⟩ (.int .i64 k)) = ws90 at hA hB hX hM HT hHeld ⊢
      refine wpAnyH_take (i := 10) (oi := ?o90) (v := ?v90) ?hi90 ?hs90 ?hf90 ?hr90 ?hQ90 ?hy90 ?hS90 ?rest90
      case hi90 => rfl
      case hs90 => kernel_rfl
      case hf90 => kernel_rfl
      case hr90 => kernel_rfl
      case hQ90 => exact fun _ _ _ h => h
      case hS90 => assumption
      case hy90 =>
        refine Or.inl ⟨by kernel_rfl, ?_⟩
        intro w' hSw
        (try dsimp only at hSw)
        go_simp
        (try rfl)
      (try simp only [List.getElem_toArray, List.getElem_cons_succ, List.getElem_cons_zero, Act.put, List.setIfInBounds_toArray, List.set_cons_zero, List.set_cons_succ])
      refine wpAnyH_done (by kernel_rfl) ?_ _
      refine NoPanic.normal ?_
      have hx1 := blkF hX
      have hx2 := blkF hM
      have cX0 : ws90.cell? ⟨X1, 0, none⟩ = some (.bool n) := cell_blk hX 0
      have cX1 : ws90.cell? ⟨X1, 1, none⟩ = some (.int .u64 h) := cell_blk hX 1
      have cX2 : ws90.cell? ⟨X1, 2, none⟩ = some (.int .u64 l) := cell_blk hX 2
      have cX3 : ws90.cell? ⟨X1, 3, none⟩ = some (.int .i64 k) := cell_blk hX 3
      have cM0 : ws90.cell? ⟨X2, 0, none⟩ = some (.bool n) := cell_blk hM 0
      have cM1 : ws90.cell? ⟨X2, 1, none⟩ = some (.int .u64 h) := cell_blk hM 1
      have cM2 : ws90.cell? ⟨X2, 2, none⟩ = some (.int .u64 l) := cell_blk hM 2
      have cM3 : ws90.cell? ⟨X2, 3, none⟩ = some (.int .i64 k) := cell_blk hM 3
      go_wp2_with fail
      refine (eqFrac_same n h l k _).mono ?_
      rintro e w9 ⟨rfl, hB9⟩
      replace HT := Lib.hid (bt2 HT.out hB9)
      clear hB9
      go_wp2_with fail
      all_goals first
        | (go_ret; exact ⟨rfl, HT.out⟩)
        | (exfalso; simp_all; done)
end Go.Proofs.Ytapdocfifgnjgaa
