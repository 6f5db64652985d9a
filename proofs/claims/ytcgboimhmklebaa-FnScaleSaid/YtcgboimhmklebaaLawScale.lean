
/-
  Chapter 3: the walk of the law on multiples of wide numbers.
-/
import Derived.Test.YtcgboimhmklebaaLawWideInt
namespace Go.Proofs.Ytcgboimhmklebaa
open Go.RowKit

theorem scaleE_wide {a k : Int} (ha : RoomW a) : scaleE (decide (a < 0)) ((a.natAbs : Int) / 18446744073709551616) ((a.natAbs : Int) % 18446744073709551616) k = fitW (a * k) := by
  rw [scaleE, if_pos (wideC_ok ha), wideC_sv]
theorem scaleE_parts {a k : Int} {n : Bool} {h l : Int} (ha : RoomW a) (hk : RoomW (a * k)) (e : wideC a = .agg #[.bool n, .int .u64 h, .int .u64 l]) : scaleE n h l k = .returned (.tuple #[wideC (a * k), .bool true]) := by
  simp only [wideC, Value.agg.injEq, Array.mk.injEq, List.cons.injEq, Value.bool.injEq, Value.int.injEq, and_true, true_and] at e
  obtain ⟨e0, e1, e2⟩ := e
  rw [← e0, ← e1, ← e2, scaleE_wide ha, fitW_in hk]
theorem wideC_parts {a : Int} {n : Bool} {h l : Int} (e : wideC a = .agg #[.bool n, .int .u64 h, .int .u64 l]) : 0 ≤ h ∧ 0 ≤ l ∧ l < 18446744073709551616 ∧ (RoomW a → h < 18446744073709551616) := by
  simp only [wideC, Value.agg.injEq, Array.mk.injEq, List.cons.injEq, Value.bool.injEq, Value.int.injEq, and_true, true_and] at e
  obtain ⟨_, e1, e2⟩ := e
  unfold RoomW
  omega
theorem scaleE_no {n : Bool} {h l k : Int} (a : okV n h l = false) : scaleE n h l k = .returned (.tuple #[.agg #[.bool false, .int .u64 0, .int .u64 0], .bool false]) := by rw [scaleE, a]; rfl
theorem scaleE_neg {n : Bool} {h l : Int} (h0 : 0 ≤ h) (l0 : 0 ≤ l) (l1 : l < 18446744073709551616) (a : okV n h l = true) : scaleE n h l (-1) = .returned (.tuple #[.agg #[.bool (negV n h l), .int .u64 h, .int .u64 l], .bool true]) := by
  rw [scaleE, if_pos a, negV_ok h0 l0 a]
  refine (fitW_yes h0 (okV_yes a).1 l0 l1 (sgV_pos h0 l0) ?_).symm
  rw [sv_sgV h0 l0]
  cases n <;> simp [sv]
theorem scaleE_ok_parts {n : Bool} {h l k : Int} {r : Bool} {x y : Int} (e : scaleE n h l k = .returned (.tuple #[.agg #[.bool r, .int .u64 x, .int .u64 y], .bool true])) : okV n h l = true ∧ okV r x y = true := by
  unfold scaleE at e
  split at e
  · rename_i a
    refine ⟨a, ?_⟩
    unfold fitW at e
    split at e
    · rename_i hr
      simp only [wideC, Ending.returned.injEq, Value.tuple.injEq, Array.mk.injEq, List.cons.injEq, Value.agg.injEq, Value.bool.injEq, Value.int.injEq, and_true, true_and] at e
      obtain ⟨e0, e1, e2⟩ := e
      rw [← e0, ← e1, ← e2]; exact wideC_ok hr
    · simp at e
  · simp at e

set_option maxRecDepth 100000 in
set_option maxHeartbeats 2000000 in
theorem lawFnScale (w : World) (v : Value) (n : Nat) (hb : Bytes w v n) :
    Calls Try.prog 4 #[v] w fun e w' => e = .returned (.bool true) ∧ Below w.heap.size w w' := by
  by_cases hbig : 1048576 < n
  · go_enter Try.func4, Try.ntmps4
    go_wp2_with fail
    refine (big_yes w v n hb hbig).mono ?_
    rintro e w1 ⟨rfl, rfl⟩
    go_wp2_with fail
    go_ret
    exact ⟨rfl, Below.refl _ _⟩
  · go_enter Try.func4, Try.ntmps4
    go_wp2_with fail
    refine (big_no w v n hb hbig).mono ?_
    rintro e w1 ⟨rfl, rfl⟩
    go_wp2_with fail
    refine (drawScaleWide w v n hb).mono ?_
    rintro e w1 ⟨⟨n0, h0, l0, kk, ⟨hp0, hp1⟩, ⟨lp0, lp1⟩, ⟨k0, k1⟩, rfl⟩, hB1⟩
    have hBB := hB1
    have HT := Lib.hid hBB
    clear hBB hB1
    obtain ⟨n1, h1, l1, b, hE⟩ := scaleE_shape n0 h0 l0 kk
    have HE := Lib.hid hE
    clear hE
    go_wp2_with fail
    refine (implScaleWide n0 h0 l0 kk hp0 hp1 lp0 lp1 k0 k1 _).mono ?_
    rintro e w2 ⟨rfl, hB2⟩
    have hXw := box_kept hB2
    have hBB := box_below hB2
    replace HT := Lib.hid (bt2 HT.out hBB)
    clear hBB hB2
    rw [HE.out]
    have hcw0 : w2.cell? ⟨w1.heap.size, 0, none⟩ = some (.bool n0) := cell_blk hXw 0
    have hcw1 : w2.cell? ⟨w1.heap.size, 1, none⟩ = some (.int .u64 h0) := cell_blk hXw 1
    have hcw2 : w2.cell? ⟨w1.heap.size, 2, none⟩ = some (.int .u64 l0) := cell_blk hXw 2
    have hltw : w1.heap.size < w2.heap.size := blk_lt hXw
    go_wp2_with fail
    clear hcw0 hcw1 hcw2 hltw
    refine (specScaleWide n0 h0 l0 kk hp0 hp1 lp0 lp1 k0 k1 _).mono ?_
    rintro e w3 ⟨rfl, hB3⟩
    have hXx := box_kept hB3
    have hBB := box_below hB3
    replace hXw := box_still hXw hBB
    replace HT := Lib.hid (bt2 HT.out hBB)
    clear hBB hB3
    rw [HE.out]
    have hb3 := hb.mono HT.out
    go_wp2_with fail
    have hb4 := hb3.mono ((Below.refl _ _).alloc (Nat.le_refl _) (.cells #[.bool n1, .int .u64 h1, .int .u64 l1] 30))
    refine (drawMulInt2 _ v n hb4).mono ?_
    rintro e w4 ⟨⟨a, c, ⟨a0, a1⟩, ⟨c0, c1⟩, rfl⟩, hB4⟩
    have hXu := box_kept hB4
    have hBB := box_below hB4
    replace hXw := box_still hXw hBB
    replace hXx := box_still hXx hBB
    replace HT := Lib.hid (bt2 HT.out hBB)
    clear hBB hB4
    obtain ⟨n2, h2, l2, hA⟩ := wideC_shape a
    obtain ⟨n3, h3, l3, hM⟩ := wideC_shape (a * c)
    have hS := scaleE_parts (k := c) (room_int a0 a1) (room_mul a0 a1 c0 c1) hA
    rw [hM] at hS
    have hp := wideC_parts hA
    have hq2 := hp.2.2.2 (room_int a0 a1)
    have HA := Lib.hid hA
    have HM := Lib.hid hM
    have HS := Lib.hid hS
    clear hA hM hS hb hb3 hb4
    go_wp2_with fail
    refine (implWideOfW a a0 a1 _).mono ?_
    rintro e w5 ⟨rfl, hB5⟩
    have hBB := hB5
    replace hXw := box_still hXw hBB
    replace hXx := box_still hXx hBB
    replace hXu := box_still hXu hBB
    replace HT := Lib.hid (bt2 HT.out hBB)
    clear hBB hB5
    rw [HA.out]
    go_wp2_with fail
    refine (implScaleWide n2 h2 l2 c hp.1 hq2 hp.2.1 hp.2.2.1 c0 c1 _).mono ?_
    rintro e w6 ⟨rfl, hB6⟩
    have hBB := hB6
    replace hXw := box_still hXw hBB
    replace hXx := box_still hXx hBB
    replace hXu := box_still hXu hBB
    replace HT := Lib.hid (bt2 HT.out hBB)
    clear hBB hB6
    rw [HS.out]
    go_wp2_with fail
    have hbn := box_new w6 (.cells #[.bool n3, .int .u64 h3, .int .u64 l3] 30)
    have hD : (w6.alloc (.cells #[.bool n3, .int .u64 h3, .int .u64 l3] 30)).drew.cell? ⟨w6.heap.size, 0, none⟩ = some (.bool n3) ∧ (w6.alloc (.cells #[.bool n3, .int .u64 h3, .int .u64 l3] 30)).drew.cell? ⟨w6.heap.size, 1, none⟩ = some (.int .u64 h3) ∧ (w6.alloc (.cells #[.bool n3, .int .u64 h3, .int .u64 l3] 30)).drew.cell? ⟨w6.heap.size, 2, none⟩ = some (.int .u64 l3) ∧ Below w.heap.size w (w6.alloc (.cells #[.bool n3, .int .u64 h3, .int .u64 l3] 30)).drew := ⟨cell_blk (w := (w6.alloc (.cells #[.bool n3, .int .u64 h3, .int .u64 l3] 30))) hbn 0, cell_blk (w := (w6.alloc (.cells #[.bool n3, .int .u64 h3, .int .u64 l3] 30))) hbn 1, cell_blk (w := (w6.alloc (.cells #[.bool n3, .int .u64 h3, .int .u64 l3] 30))) hbn 2, (HT.out.alloc HT.out.size _).drew⟩
    clear hbn
    refine wp_region_noPanic ?_
    refine wp_region_held_drew (S := (fun w' => w'.cell? ⟨w6.heap.size, 0, none⟩ = some (.bool n3) ∧ w'.cell? ⟨w6.heap.size, 1, none⟩ = some (.int .u64 h3) ∧ w'.cell? ⟨w6.heap.size, 2, none⟩ = some (.int .u64 l3) ∧ Below w.heap.size w w')) (by kernel_rfl) hD (fun hHeld => ?_)
    refine wpAnyH_take (i := 0) (oi := ?o26) (v := ?v26) ?hi26 ?hs26 ?hf26 ?hr26 ?hQ26 ?hy26 ?hS26 ?rest26
    case hi26 => rfl
    case hs26 => kernel_rfl
    case hf26 => kernel_rfl
    case hr26 => kernel_rfl
    case hQ26 => exact fun _ _ _ h => h
    case hS26 => assumption
    case hy26 =>
      refine Or.inl ⟨by kernel_rfl, ?_⟩
      intro w' hSw
      (try dsimp only at hSw)
      go_simp
      (try rfl)
    (try simp only [List.getElem_toArray, List.getElem_cons_zero, Act.put, List.setIfInBounds_toArray, List.set_cons_zero, List.set_cons_succ])
    refine wpAnyH_take (i := 1) (oi := ?o27) (v := ?v27) ?hi27 ?hs27 ?hf27 ?hr27 ?hQ27 ?hy27 ?hS27 ?rest27
    case hi27 => rfl
    case hs27 => kernel_rfl
    case hf27 => kernel_rfl
    case hr27 => kernel_rfl
    case hQ27 => exact fun _ _ _ h => h
    case hS27 => assumption
    case hy27 =>
      refine Or.inl ⟨by kernel_rfl, ?_⟩
      intro w' hSw
      (try dsimp only at hSw)
      go_simp
      (try rfl)
    (try simp only [List.getElem_toArray, List.getElem_cons_succ, List.getElem_cons_zero, Act.put, List.setIfInBounds_toArray, List.set_cons_zero, List.set_cons_succ])
    refine wpAnyH_take (i := 2) (oi := ?o28) (v := ?v28) ?hi28 ?hs28 ?hf28 ?hr28 ?hQ28 ?hy28 ?hS28 ?rest28
    case hi28 => rfl
    case hs28 => kernel_rfl
    case hf28 => kernel_rfl
    case hr28 => kernel_rfl
    case hQ28 => exact fun _ _ _ h => h
    case hS28 => assumption
    case hy28 =>
      refine Or.inl ⟨by kernel_rfl, ?_⟩
      intro w' hSw
      (try dsimp only at hSw)
      go_simp
      (try rfl)
    (try simp only [List.getElem_toArray, List.getElem_cons_succ, List.getElem_cons_zero, Act.put, List.setIfInBounds_toArray, List.set_cons_zero, List.set_cons_succ])
    refine wpAnyH_take (i := 3) (oi := ?o29) (v := ?v29) ?hi29 ?hs29 ?hf29 ?hr29 ?hQ29 ?hy29 ?hS29 ?rest29
    case hi29 => rfl
    case hs29 => kernel_rfl
    case hf29 => kernel_rfl
    case hr29 => kernel_rfl
    case hQ29 => exact fun _ _ _ h => h
    case hS29 => assumption
    case hy29 =>
      refine Or.inl ⟨by kernel_rfl, ?_⟩
      intro w' hSw
      (try dsimp only at hSw)
      go_simp
      (try rfl)
    (try simp only [List.getElem_toArray, List.getElem_cons_succ, List.getElem_cons_zero, Act.put, List.setIfInBounds_toArray, List.set_cons_zero, List.set_cons_succ])
    refine wpAnyH_take (i := 4) (oi := ?o30) (v := ?v30) ?hi30 ?hs30 ?hf30 ?hr30 ?hQ30 ?hy30 ?hS30 ?rest30
    case hi30 => rfl
    case hs30 => kernel_rfl
    case hf30 => kernel_rfl
    case hr30 => kernel_rfl
    case hQ30 => exact fun _ _ _ h => h
    case hS30 => assumption
    case hy30 =>
      refine Or.inl ⟨by kernel_rfl, ?_⟩
      intro w' hSw
      (try dsimp only at hSw)
      go_simp
      (try rfl)
    (try simp only [List.getElem_toArray, List.getElem_cons_succ, List.getElem_cons_zero, Act.put, List.setIfInBounds_toArray, List.set_cons_zero, List.set_cons_succ])
    refine wpAnyH_take (i := 5) (oi := ?o31) (v := ?v31) ?hi31 ?hs31 ?hf31 ?hr31 ?hQ31 ?hy31 ?hS31 ?rest31
    case hi31 => rfl
    case hs31 => kernel_rfl
    case hf31 => kernel_rfl
    case hr31 => kernel_rfl
    case hQ31 => exact fun _ _ _ h => h
    case hS31 => assumption
    case hy31 =>
      refine Or.inl ⟨by kernel_rfl, ?_⟩
      intro w' hSw
      (try dsimp only at hSw)
      go_simp
      (try rfl)
    (try simp only [List.getElem_toArray, List.getElem_cons_succ, List.getElem_cons_zero, Act.put, List.setIfInBounds_toArray, List.set_cons_zero, List.set_cons_succ])
    refine wpAnyH_ready (rs := [6]) (by kernel_rfl) (by simp) ?_
    refine AllReadyH.cons rfl (fun K hK => ?_) AllReadyH.nil
    go_simp
    refine (implMulWide a c a0 a1 c0 c1 _).mono ?_
    rintro e w7 ⟨rfl, hB7⟩
    replace hB7 := below_of_drew hB7
    have hXy := box_kept hB7
    have hBB := box_below hB7
    replace hXw := box_still hXw hBB
    replace hXx := box_still hXx hBB
    replace hXu := box_still hXu hBB
    replace HT := Lib.hid (bt2 HT.out hBB)
    clear hBB hB7
    rw [HM.out]
    refine hK.out _ _ ?_ (fun hHeld => ?_)
    · exact ⟨cell_blk hXy 0, cell_blk hXy 1, cell_blk hXy 2, HT.out⟩
    clear hK K
    (try simp only [List.getElem_toArray, List.getElem_cons_succ, List.getElem_cons_zero, Act.put, List.setIfInBounds_toArray, List.set_cons_zero, List.set_cons_succ])
    refine wpAnyH_take (i := 7) (oi := ?o32) (v := ?v32) ?hi32 ?hs32 ?hf32 ?hr32 ?hQ32 ?hy32 ?hS32 ?rest32
    case hi32 => rfl
    case hs32 => kernel_rfl
    case hf32 => kernel_rfl
    case hr32 => kernel_rfl
    case hQ32 => exact fun _ _ _ h => h
    case hS32 => assumption
    case hy32 =>
      refine Or.inl ⟨by kernel_rfl, ?_⟩
      intro w' hSw
      (try dsimp only at hSw)
      go_simp
      (try rfl)
    (try simp only [List.getElem_toArray, List.getElem_cons_succ, List.getElem_cons_zero, Act.put, List.setIfInBounds_toArray, List.set_cons_zero, List.set_cons_succ])
    refine wpAnyH_take (i := 8) (oi := ?o33) (v := ?v33) ?hi33 ?hs33 ?hf33 ?hr33 ?hQ33 ?hy33 ?hS33 ?rest33
    case hi33 => rfl
    case hs33 => kernel_rfl
    case hf33 => kernel_rfl
    case hr33 => kernel_rfl
    case hQ33 => exact fun _ _ _ h => h
    case hS33 => assumption
    case hy33 =>
      refine Or.inl ⟨by kernel_rfl, ?_⟩
      intro w' hSw
      (try dsimp only at hSw)
      go_simp
      (try rfl)
    (try simp only [List.getElem_toArray, List.getElem_cons_succ, List.getElem_cons_zero, Act.put, List.setIfInBounds_toArray, List.set_cons_zero, List.set_cons_succ])
    refine wpAnyH_done (by kernel_rfl) ?_ _
    refine NoPanic.normal ?_
    clear hHeld hD
    have hcw0 : w7.cell? ⟨w1.heap.size, 0, none⟩ = some (.bool n0) := cell_blk hXw 0
    have hcw1 : w7.cell? ⟨w1.heap.size, 1, none⟩ = some (.int .u64 h0) := cell_blk hXw 1
    have hcw2 : w7.cell? ⟨w1.heap.size, 2, none⟩ = some (.int .u64 l0) := cell_blk hXw 2
    have hltw : w1.heap.size < w7.heap.size := blk_lt hXw
    go_wp2_with fail
    clear hcw0 hcw1 hcw2 hltw
    by_cases hk : okV n0 h0 l0 = true
    · cases b
      · skip
        refine (implScaleWide n0 h0 l0 (-1) hp0 hp1 lp0 lp1 (by omega) (by omega) _).mono ?_
        rintro e w8 ⟨rfl, hB8⟩
        have hBB := hB8
        replace hXw := box_still hXw hBB
        replace hXx := box_still hXx hBB
        replace hXu := box_still hXu hBB
        replace hXy := box_still hXy hBB
        replace HT := Lib.hid (bt2 HT.out hBB)
        clear hBB hB8
        rw [scaleE_neg hp0 lp0 lp1 hk]
        go_wp2_with fail
        have hbn := box_new w8 (.cells #[.bool (negV n0 h0 l0), .int .u64 h0, .int .u64 l0] 30)
        have hD : (w8.alloc (.cells #[.bool (negV n0 h0 l0), .int .u64 h0, .int .u64 l0] 30)).drew.cell? ⟨w1.heap.size, 0, none⟩ = some (.bool n0) ∧ (w8.alloc (.cells #[.bool (negV n0 h0 l0), .int .u64 h0, .int .u64 l0] 30)).drew.cell? ⟨w1.heap.size, 1, none⟩ = some (.int .u64 h0) ∧ (w8.alloc (.cells #[.bool (negV n0 h0 l0), .int .u64 h0, .int .u64 l0] 30)).drew.cell? ⟨w1.heap.size, 2, none⟩ = some (.int .u64 l0) ∧ (w8.alloc (.cells #[.bool (negV n0 h0 l0), .int .u64 h0, .int .u64 l0] 30)).drew.cell? ⟨w2.heap.size, 0, none⟩ = some (.bool n1) ∧ (w8.alloc (.cells #[.bool (negV n0 h0 l0), .int .u64 h0, .int .u64 l0] 30)).drew.cell? ⟨w2.heap.size, 1, none⟩ = some (.int .u64 h1) ∧ (w8.alloc (.cells #[.bool (negV n0 h0 l0), .int .u64 h0, .int .u64 l0] 30)).drew.cell? ⟨w2.heap.size, 2, none⟩ = some (.int .u64 l1) ∧ (w8.alloc (.cells #[.bool (negV n0 h0 l0), .int .u64 h0, .int .u64 l0] 30)).drew.cell? ⟨w8.heap.size, 0, none⟩ = some (.bool (negV n0 h0 l0)) ∧ (w8.alloc (.cells #[.bool (negV n0 h0 l0), .int .u64 h0, .int .u64 l0] 30)).drew.cell? ⟨w8.heap.size, 1, none⟩ = some (.int .u64 h0) ∧ (w8.alloc (.cells #[.bool (negV n0 h0 l0), .int .u64 h0, .int .u64 l0] 30)).drew.cell? ⟨w8.heap.size, 2, none⟩ = some (.int .u64 l0) ∧ Below w.heap.size w (w8.alloc (.cells #[.bool (negV n0 h0 l0), .int .u64 h0, .int .u64 l0] 30)).drew := ⟨kept_alloc (cell_blk hXw 0) _, kept_alloc (cell_blk hXw 1) _, kept_alloc (cell_blk hXw 2) _, kept_alloc (cell_blk hXx 0) _, kept_alloc (cell_blk hXx 1) _, kept_alloc (cell_blk hXx 2) _, cell_blk (w := (w8.alloc (.cells #[.bool (negV n0 h0 l0), .int .u64 h0, .int .u64 l0] 30))) hbn 0, cell_blk (w := (w8.alloc (.cells #[.bool (negV n0 h0 l0), .int .u64 h0, .int .u64 l0] 30))) hbn 1, cell_blk (w := (w8.alloc (.cells #[.bool (negV n0 h0 l0), .int .u64 h0, .int .u64 l0] 30))) hbn 2, (HT.out.alloc HT.out.size _).drew⟩
        clear hbn
        refine wp_region_noPanic ?_
        refine wp_region_held_drew (S := (fun w' => w'.cell? ⟨w1.heap.size, 0, none⟩ = some (.bool n0) ∧ w'.cell? ⟨w1.heap.size, 1, none⟩ = some (.int .u64 h0) ∧ w'.cell? ⟨w1.heap.size, 2, none⟩ = some (.int .u64 l0) ∧ w'.cell? ⟨w2.heap.size, 0, none⟩ = some (.bool n1) ∧ w'.cell? ⟨w2.heap.size, 1, none⟩ = some (.int .u64 h1) ∧ w'.cell? ⟨w2.heap.size, 2, none⟩ = some (.int .u64 l1) ∧ w'.cell? ⟨w8.heap.size, 0, none⟩ = some (.bool (negV n0 h0 l0)) ∧ w'.cell? ⟨w8.heap.size, 1, none⟩ = some (.int .u64 h0) ∧ w'.cell? ⟨w8.heap.size, 2, none⟩ = some (.int .u64 l0) ∧ Below w.heap.size w w')) (by kernel_rfl) hD (fun hHeld => ?_)
        clear hD
        refine wpAnyH_take (i := 0) (oi := ?o34) (v := ?v34) ?hi34 ?hs34 ?hf34 ?hr34 ?hQ34 ?hy34 ?hS34 ?rest34
        case hi34 => rfl
        case hs34 => kernel_rfl
        case hf34 => kernel_rfl
        case hr34 => kernel_rfl
        case hQ34 => exact fun _ _ _ h => h
        case hS34 => assumption
        case hy34 =>
          refine Or.inl ⟨by kernel_rfl, ?_⟩
          intro w' hSw
          (try dsimp only at hSw)
          go_simp
          (try rfl)
        (try simp only [List.getElem_toArray, List.getElem_cons_zero, Act.put, List.setIfInBounds_toArray, List.set_cons_zero, List.set_cons_succ])
        refine wpAnyH_take (i := 1) (oi := ?o35) (v := ?v35) ?hi35 ?hs35 ?hf35 ?hr35 ?hQ35 ?hy35 ?hS35 ?rest35
        case hi35 => rfl
        case hs35 => kernel_rfl
        case hf35 => kernel_rfl
        case hr35 => kernel_rfl
        case hQ35 => exact fun _ _ _ h => h
        case hS35 => assumption
        case hy35 =>
          refine Or.inl ⟨by kernel_rfl, ?_⟩
          intro w' hSw
          (try dsimp only at hSw)
          go_simp
          (try rfl)
        (try simp only [List.getElem_toArray, List.getElem_cons_succ, List.getElem_cons_zero, Act.put, List.setIfInBounds_toArray, List.set_cons_zero, List.set_cons_succ])
        refine wpAnyH_take (i := 2) (oi := ?o36) (v := ?v36) ?hi36 ?hs36 ?hf36 ?hr36 ?hQ36 ?hy36 ?hS36 ?rest36
        case hi36 => rfl
        case hs36 => kernel_rfl
        case hf36 => kernel_rfl
        case hr36 => kernel_rfl
        case hQ36 => exact fun _ _ _ h => h
        case hS36 => assumption
        case hy36 =>
          refine Or.inl ⟨by kernel_rfl, ?_⟩
          intro w' hSw
          (try dsimp only at hSw)
          go_simp
          (try rfl)
        (try simp only [List.getElem_toArray, List.getElem_cons_succ, List.getElem_cons_zero, Act.put, List.setIfInBounds_toArray, List.set_cons_zero, List.set_cons_succ])
        refine wpAnyH_take (i := 3) (oi := ?o37) (v := undef) ?hi37 ?hs37 ?hf37 ?hr37 ?hQ37 ?hy37 ?hS37 ?rest37
        case hi37 => rfl
        case hs37 => kernel_rfl
        case hf37 => kernel_rfl
        case hr37 => kernel_rfl
        case hQ37 => exact fun _ _ _ h => h
        case hS37 => assumption
        case hy37 => exact Or.inr ⟨by kernel_rfl, rfl⟩
        (try simp only [List.getElem_toArray, List.getElem_cons_succ, List.getElem_cons_zero, Act.put, List.setIfInBounds_toArray, List.set_cons_zero, List.set_cons_succ])
        refine wpAnyH_take (i := 4) (oi := ?o38) (v := undef) ?hi38 ?hs38 ?hf38 ?hr38 ?hQ38 ?hy38 ?hS38 ?rest38
        case hi38 => rfl
        case hs38 => kernel_rfl
        case hf38 => kernel_rfl
        case hr38 => kernel_rfl
        case hQ38 => exact fun _ _ _ h => h
        case hS38 => assumption
        case hy38 => exact Or.inr ⟨by kernel_rfl, rfl⟩
        (try simp only [List.getElem_toArray, List.getElem_cons_succ, List.getElem_cons_zero, Act.put, List.setIfInBounds_toArray, List.set_cons_zero, List.set_cons_succ])
        refine wpAnyH_take (i := 5) (oi := ?o39) (v := ?v39) ?hi39 ?hs39 ?hf39 ?hr39 ?hQ39 ?hy39 ?hS39 ?rest39
        case hi39 => rfl
        case hs39 => kernel_rfl
        case hf39 => kernel_rfl
        case hr39 => kernel_rfl
        case hQ39 => exact fun _ _ _ h => h
        case hS39 => assumption
        case hy39 =>
          refine Or.inl ⟨by kernel_rfl, ?_⟩
          intro w' hSw
          (try dsimp only at hSw)
          go_simp
          (try rfl)
        (try simp only [List.getElem_toArray, List.getElem_cons_succ, List.getElem_cons_zero, Act.put, List.setIfInBounds_toArray, List.set_cons_zero, List.set_cons_succ])
        refine wpAnyH_take (i := 6) (oi := ?o40) (v := ?v40) ?hi40 ?hs40 ?hf40 ?hr40 ?hQ40 ?hy40 ?hS40 ?rest40
        case hi40 => rfl
        case hs40 => kernel_rfl
        case hf40 => kernel_rfl
        case hr40 => kernel_rfl
        case hQ40 => exact fun _ _ _ h => h
        case hS40 => assumption
        case hy40 =>
          refine Or.inl ⟨by kernel_rfl, ?_⟩
          intro w' hSw
          (try dsimp only at hSw)
          go_simp
          (try rfl)
        (try simp only [List.getElem_toArray, List.getElem_cons_succ, List.getElem_cons_zero, Act.put, List.setIfInBounds_toArray, List.set_cons_zero, List.set_cons_succ])
        refine wpAnyH_take (i := 7) (oi := ?o41) (v := ?v41) ?hi41 ?hs41 ?hf41 ?hr41 ?hQ41 ?hy41 ?hS41 ?rest41
        case hi41 => rfl
        case hs41 => kernel_rfl
        case hf41 => kernel_rfl
        case hr41 => kernel_rfl
        case hQ41 => exact fun _ _ _ h => h
        case hS41 => assumption
        case hy41 =>
          refine Or.inl ⟨by kernel_rfl, ?_⟩
          intro w' hSw
          (try dsimp only at hSw)
          go_simp
          (try rfl)
        (try simp only [List.getElem_toArray, List.getElem_cons_succ, List.getElem_cons_zero, Act.put, List.setIfInBounds_toArray, List.set_cons_zero, List.set_cons_succ])
        refine wpAnyH_ready (rs := [8]) (by kernel_rfl) (by simp) ?_
        refine AllReadyH.cons rfl (fun K hK => ?_) AllReadyH.nil
        go_simp
        refine (specWideOk n0 h0 l0 _).mono ?_
        rintro e w9 ⟨rfl, hB9⟩
        replace hB9 := below_of_drew hB9
        have hXz := box_kept hB9
        have hBB := box_below hB9
        replace hXw := box_still hXw hBB
        replace hXx := box_still hXx hBB
        replace hXu := box_still hXu hBB
        replace hXy := box_still hXy hBB
        replace HT := Lib.hid (bt2 HT.out hBB)
        clear hBB hB9
        rw [hk]
        refine hK.out _ _ ?_ (fun hHeld => ?_)
        · exact ⟨cell_blk hXw 0, cell_blk hXw 1, cell_blk hXw 2, cell_blk hXx 0, cell_blk hXx 1, cell_blk hXx 2, cell_blk hXz 0, cell_blk hXz 1, cell_blk hXz 2, HT.out⟩
        clear hK K
        (try simp only [List.getElem_toArray, List.getElem_cons_succ, List.getElem_cons_zero, Act.put, List.setIfInBounds_toArray, List.set_cons_zero, List.set_cons_succ])
        refine wpAnyH_take (i := 9) (oi := ?o42) (v := ?v42) ?hi42 ?hs42 ?hf42 ?hr42 ?hQ42 ?hy42 ?hS42 ?rest42
        case hi42 => rfl
        case hs42 => kernel_rfl
        case hf42 => kernel_rfl
        case hr42 => kernel_rfl
        case hQ42 => exact fun _ _ _ h => h
        case hS42 => assumption
        case hy42 =>
          refine Or.inl ⟨by kernel_rfl, ?_⟩
          intro w' hSw
          (try dsimp only at hSw)
          go_simp
          (try rfl)
        (try simp only [List.getElem_toArray, List.getElem_cons_succ, List.getElem_cons_zero, Act.put, List.setIfInBounds_toArray, List.set_cons_zero, List.set_cons_succ])
        refine wpAnyH_take (i := 10) (oi := ?o43) (v := ?v43) ?hi43 ?hs43 ?hf43 ?hr43 ?hQ43 ?hy43 ?hS43 ?rest43
        case hi43 => rfl
        case hs43 => kernel_rfl
        case hf43 => kernel_rfl
        case hr43 => kernel_rfl
        case hQ43 => exact fun _ _ _ h => h
        case hS43 => assumption
        case hy43 =>
          refine Or.inl ⟨by kernel_rfl, ?_⟩
          intro w' hSw
          (try dsimp only at hSw)
          go_simp
          (try rfl)
        (try simp only [List.getElem_toArray, List.getElem_cons_succ, List.getElem_cons_zero, Act.put, List.setIfInBounds_toArray, List.set_cons_zero, List.set_cons_succ])
        refine wpAnyH_take (i := 11) (oi := ?o44) (v := ?v44) ?hi44 ?hs44 ?hf44 ?hr44 ?hQ44 ?hy44 ?hS44 ?rest44
        case hi44 => rfl
        case hs44 => kernel_rfl
        case hf44 => kernel_rfl
        case hr44 => kernel_rfl
        case hQ44 => exact fun _ _ _ h => h
        case hS44 => assumption
        case hy44 =>
          refine Or.inl ⟨by kernel_rfl, ?_⟩
          intro w' hSw
          (try dsimp only at hSw)
          go_simp
          (try rfl)
        (try simp only [List.getElem_toArray, List.getElem_cons_succ, List.getElem_cons_zero, Act.put, List.setIfInBounds_toArray, List.set_cons_zero, List.set_cons_succ])
        refine wpAnyH_take (i := 12) (oi := ?o45) (v := ?v45) ?hi45 ?hs45 ?hf45 ?hr45 ?hQ45 ?hy45 ?hS45 ?rest45
        case hi45 => rfl
        case hs45 => kernel_rfl
        case hf45 => kernel_rfl
        case hr45 => kernel_rfl
        case hQ45 => exact fun _ _ _ h => h
        case hS45 => assumption
        case hy45 =>
          refine Or.inl ⟨by kernel_rfl, ?_⟩
          intro w' hSw
          (try dsimp only at hSw)
          go_simp
          (try rfl)
        (try simp only [List.getElem_toArray, List.getElem_cons_succ, List.getElem_cons_zero, Act.put, List.setIfInBounds_toArray, List.set_cons_zero, List.set_cons_succ])
        refine wpAnyH_take (i := 13) (oi := ?o46) (v := ?v46) ?hi46 ?hs46 ?hf46 ?hr46 ?hQ46 ?hy46 ?hS46 ?rest46
        case hi46 => rfl
        case hs46 => kernel_rfl
        case hf46 => kernel_rfl
        case hr46 => kernel_rfl
        case hQ46 => exact fun _ _ _ h => h
        case hS46 => assumption
        case hy46 =>
          refine Or.inl ⟨by kernel_rfl, ?_⟩
          intro w' hSw
          (try dsimp only at hSw)
          go_simp
          (try rfl)
        (try simp only [List.getElem_toArray, List.getElem_cons_succ, List.getElem_cons_zero, Act.put, List.setIfInBounds_toArray, List.set_cons_zero, List.set_cons_succ])
        refine wpAnyH_take (i := 14) (oi := ?o47) (v := ?v47) ?hi47 ?hs47 ?hf47 ?hr47 ?hQ47 ?hy47 ?hS47 ?rest47
        case hi47 => rfl
        case hs47 => kernel_rfl
        case hf47 => kernel_rfl
        case hr47 => kernel_rfl
        case hQ47 => exact fun _ _ _ h => h
        case hS47 => assumption
        case hy47 =>
          refine Or.inl ⟨by kernel_rfl, ?_⟩
          intro w' hSw
          (try dsimp only at hSw)
          go_simp
          (try rfl)
        (try simp only [List.getElem_toArray, List.getElem_cons_succ, List.getElem_cons_zero, Act.put, List.setIfInBounds_toArray, List.set_cons_zero, List.set_cons_succ])
        refine wpAnyH_ready (rs := [15]) (by kernel_rfl) (by simp) ?_
        refine AllReadyH.cons rfl (fun K hK => ?_) AllReadyH.nil
        go_simp
        refine (implNegWide n0 h0 l0 hp0 lp0 _).mono ?_
        rintro e w10 ⟨rfl, hB10⟩
        have hBB := hB10
        replace hXw := box_still hXw hBB
        replace hXx := box_still hXx hBB
        replace hXu := box_still hXu hBB
        replace hXy := box_still hXy hBB
        replace hXz := box_still hXz hBB
        replace HT := Lib.hid (bt2 HT.out hBB)
        clear hBB hB10
        refine hK.out _ _ ?_ (fun hHeld => ?_)
        · exact ⟨cell_blk hXw 0, cell_blk hXw 1, cell_blk hXw 2, cell_blk hXx 0, cell_blk hXx 1, cell_blk hXx 2, cell_blk hXz 0, cell_blk hXz 1, cell_blk hXz 2, HT.out⟩
        clear hK K
        (try simp only [List.getElem_toArray, List.getElem_cons_succ, List.getElem_cons_zero, Act.put, List.setIfInBounds_toArray, List.set_cons_zero, List.set_cons_succ])
        refine wpAnyH_take (i := 16) (oi := ?o48) (v := ?v48) ?hi48 ?hs48 ?hf48 ?hr48 ?hQ48 ?hy48 ?hS48 ?rest48
        case hi48 => rfl
        case hs48 => kernel_rfl
        case hf48 => kernel_rfl
        case hr48 => kernel_rfl
        case hQ48 => exact fun _ _ _ h => h
        case hS48 => assumption
        case hy48 =>
          refine Or.inl ⟨by kernel_rfl, ?_⟩
          intro w' hSw
          (try dsimp only at hSw)
          go_simp
          (try rfl)
        (try simp only [List.getElem_toArray, List.getElem_cons_succ, List.getElem_cons_zero, Act.put, List.setIfInBounds_toArray, List.set_cons_zero, List.set_cons_succ])
        refine wpAnyH_take (i := 17) (oi := ?o49) (v := ?v49) ?hi49 ?hs49 ?hf49 ?hr49 ?hQ49 ?hy49 ?hS49 ?rest49
        case hi49 => rfl
        case hs49 => kernel_rfl
        case hf49 => kernel_rfl
        case hr49 => kernel_rfl
        case hQ49 => exact fun _ _ _ h => h
        case hS49 => assumption
        case hy49 =>
          refine Or.inl ⟨by kernel_rfl, ?_⟩
          intro w' hSw
          (try dsimp only at hSw)
          go_simp
          (try rfl)
        (try simp only [List.getElem_toArray, List.getElem_cons_succ, List.getElem_cons_zero, Act.put, List.setIfInBounds_toArray, List.set_cons_zero, List.set_cons_succ])
        refine wpAnyH_take (i := 18) (oi := ?o50) (v := ?v50) ?hi50 ?hs50 ?hf50 ?hr50 ?hQ50 ?hy50 ?hS50 ?rest50
        case hi50 => rfl
        case hs50 => kernel_rfl
        case hf50 => kernel_rfl
        case hr50 => kernel_rfl
        case hQ50 => exact fun _ _ _ h => h
        case hS50 => assumption
        case hy50 =>
          refine Or.inl ⟨by kernel_rfl, ?_⟩
          intro w' hSw
          (try dsimp only at hSw)
          go_simp
          (try rfl)
        (try simp only [List.getElem_toArray, List.getElem_cons_succ, List.getElem_cons_zero, Act.put, List.setIfInBounds_toArray, List.set_cons_zero, List.set_cons_succ])
        refine wpAnyH_take (i := 19) (oi := ?o51) (v := ?v51) ?hi51 ?hs51 ?hf51 ?hr51 ?hQ51 ?hy51 ?hS51 ?rest51
        case hi51 => rfl
        case hs51 => kernel_rfl
        case hf51 => kernel_rfl
        case hr51 => kernel_rfl
        case hQ51 => exact fun _ _ _ h => h
        case hS51 => assumption
        case hy51 =>
          refine Or.inl ⟨by kernel_rfl, ?_⟩
          intro w' hSw
          (try dsimp only at hSw)
          go_simp
          (try rfl)
        (try simp only [List.getElem_toArray, List.getElem_cons_succ, List.getElem_cons_zero, Act.put, List.setIfInBounds_toArray, List.set_cons_zero, List.set_cons_succ])
        refine wpAnyH_take (i := 20) (oi := ?o52) (v := ?v52) ?hi52 ?hs52 ?hf52 ?hr52 ?hQ52 ?hy52 ?hS52 ?rest52
        case hi52 => rfl
        case hs52 => kernel_rfl
        case hf52 => kernel_rfl
        case hr52 => kernel_rfl
        case hQ52 => exact fun _ _ _ h => h
        case hS52 => assumption
        case hy52 =>
          refine Or.inl ⟨by kernel_rfl, ?_⟩
          intro w' hSw
          (try dsimp only at hSw)
          go_simp
          (try rfl)
        (try simp only [List.getElem_toArray, List.getElem_cons_succ, List.getElem_cons_zero, Act.put, List.setIfInBounds_toArray, List.set_cons_zero, List.set_cons_succ])
        refine wpAnyH_done (by kernel_rfl) ?_ _
        refine NoPanic.normal ?_
        go_wp2_with fail
        go_ret
        exact ⟨rfl, HT.out⟩
      · obtain ⟨_, hk1⟩ := scaleE_ok_parts HE.out
        refine (implScaleWide n0 h0 l0 (-1) hp0 hp1 lp0 lp1 (by omega) (by omega) _).mono ?_
        rintro e w8 ⟨rfl, hB8⟩
        have hBB := hB8
        replace hXw := box_still hXw hBB
        replace hXx := box_still hXx hBB
        replace hXu := box_still hXu hBB
        replace hXy := box_still hXy hBB
        replace HT := Lib.hid (bt2 HT.out hBB)
        clear hBB hB8
        rw [scaleE_neg hp0 lp0 lp1 hk]
        go_wp2_with fail
        have hbn := box_new w8 (.cells #[.bool (negV n0 h0 l0), .int .u64 h0, .int .u64 l0] 30)
        have hD : (w8.alloc (.cells #[.bool (negV n0 h0 l0), .int .u64 h0, .int .u64 l0] 30)).drew.cell? ⟨w1.heap.size, 0, none⟩ = some (.bool n0) ∧ (w8.alloc (.cells #[.bool (negV n0 h0 l0), .int .u64 h0, .int .u64 l0] 30)).drew.cell? ⟨w1.heap.size, 1, none⟩ = some (.int .u64 h0) ∧ (w8.alloc (.cells #[.bool (negV n0 h0 l0), .int .u64 h0, .int .u64 l0] 30)).drew.cell? ⟨w1.heap.size, 2, none⟩ = some (.int .u64 l0) ∧ (w8.alloc (.cells #[.bool (negV n0 h0 l0), .int .u64 h0, .int .u64 l0] 30)).drew.cell? ⟨w2.heap.size, 0, none⟩ = some (.bool n1) ∧ (w8.alloc (.cells #[.bool (negV n0 h0 l0), .int .u64 h0, .int .u64 l0] 30)).drew.cell? ⟨w2.heap.size, 1, none⟩ = some (.int .u64 h1) ∧ (w8.alloc (.cells #[.bool (negV n0 h0 l0), .int .u64 h0, .int .u64 l0] 30)).drew.cell? ⟨w2.heap.size, 2, none⟩ = some (.int .u64 l1) ∧ (w8.alloc (.cells #[.bool (negV n0 h0 l0), .int .u64 h0, .int .u64 l0] 30)).drew.cell? ⟨w8.heap.size, 0, none⟩ = some (.bool (negV n0 h0 l0)) ∧ (w8.alloc (.cells #[.bool (negV n0 h0 l0), .int .u64 h0, .int .u64 l0] 30)).drew.cell? ⟨w8.heap.size, 1, none⟩ = some (.int .u64 h0) ∧ (w8.alloc (.cells #[.bool (negV n0 h0 l0), .int .u64 h0, .int .u64 l0] 30)).drew.cell? ⟨w8.heap.size, 2, none⟩ = some (.int .u64 l0) ∧ Below w.heap.size w (w8.alloc (.cells #[.bool (negV n0 h0 l0), .int .u64 h0, .int .u64 l0] 30)).drew := ⟨kept_alloc (cell_blk hXw 0) _, kept_alloc (cell_blk hXw 1) _, kept_alloc (cell_blk hXw 2) _, kept_alloc (cell_blk hXx 0) _, kept_alloc (cell_blk hXx 1) _, kept_alloc (cell_blk hXx 2) _, cell_blk (w := (w8.alloc (.cells #[.bool (negV n0 h0 l0), .int .u64 h0, .int .u64 l0] 30))) hbn 0, cell_blk (w := (w8.alloc (.cells #[.bool (negV n0 h0 l0), .int .u64 h0, .int .u64 l0] 30))) hbn 1, cell_blk (w := (w8.alloc (.cells #[.bool (negV n0 h0 l0), .int .u64 h0, .int .u64 l0] 30))) hbn 2, (HT.out.alloc HT.out.size _).drew⟩
        clear hbn
        refine wp_region_noPanic ?_
        refine wp_region_held_drew (S := (fun w' => w'.cell? ⟨w1.heap.size, 0, none⟩ = some (.bool n0) ∧ w'.cell? ⟨w1.heap.size, 1, none⟩ = some (.int .u64 h0) ∧ w'.cell? ⟨w1.heap.size, 2, none⟩ = some (.int .u64 l0) ∧ w'.cell? ⟨w2.heap.size, 0, none⟩ = some (.bool n1) ∧ w'.cell? ⟨w2.heap.size, 1, none⟩ = some (.int .u64 h1) ∧ w'.cell? ⟨w2.heap.size, 2, none⟩ = some (.int .u64 l1) ∧ w'.cell? ⟨w8.heap.size, 0, none⟩ = some (.bool (negV n0 h0 l0)) ∧ w'.cell? ⟨w8.heap.size, 1, none⟩ = some (.int .u64 h0) ∧ w'.cell? ⟨w8.heap.size, 2, none⟩ = some (.int .u64 l0) ∧ Below w.heap.size w w')) (by kernel_rfl) hD (fun hHeld => ?_)
        clear hD
        refine wpAnyH_take (i := 0) (oi := ?o53) (v := ?v53) ?hi53 ?hs53 ?hf53 ?hr53 ?hQ53 ?hy53 ?hS53 ?rest53
        case hi53 => rfl
        case hs53 => kernel_rfl
        case hf53 => kernel_rfl
        case hr53 => kernel_rfl
        case hQ53 => exact fun _ _ _ h => h
        case hS53 => assumption
        case hy53 =>
          refine Or.inl ⟨by kernel_rfl, ?_⟩
          intro w' hSw
          (try dsimp only at hSw)
          go_simp
          (try rfl)
        (try simp only [List.getElem_toArray, List.getElem_cons_zero, Act.put, List.setIfInBounds_toArray, List.set_cons_zero, List.set_cons_succ])
        refine wpAnyH_take (i := 1) (oi := ?o54) (v := ?v54) ?hi54 ?hs54 ?hf54 ?hr54 ?hQ54 ?hy54 ?hS54 ?rest54
        case hi54 => rfl
        case hs54 => kernel_rfl
        case hf54 => kernel_rfl
        case hr54 => kernel_rfl
        case hQ54 => exact fun _ _ _ h => h
        case hS54 => assumption
        case hy54 =>
          refine Or.inl ⟨by kernel_rfl, ?_⟩
          intro w' hSw
          (try dsimp only at hSw)
          go_simp
          (try rfl)
        (try simp only [List.getElem_toArray, List.getElem_cons_succ, List.getElem_cons_zero, Act.put, List.setIfInBounds_toArray, List.set_cons_zero, List.set_cons_succ])
        refine wpAnyH_take (i := 2) (oi := ?o55) (v := ?v55) ?hi55 ?hs55 ?hf55 ?hr55 ?hQ55 ?hy55 ?hS55 ?rest55
        case hi55 => rfl
        case hs55 => kernel_rfl
        case hf55 => kernel_rfl
        case hr55 => kernel_rfl
        case hQ55 => exact fun _ _ _ h => h
        case hS55 => assumption
        case hy55 =>
          refine Or.inl ⟨by kernel_rfl, ?_⟩
          intro w' hSw
          (try dsimp only at hSw)
          go_simp
          (try rfl)
        (try simp only [List.getElem_toArray, List.getElem_cons_succ, List.getElem_cons_zero, Act.put, List.setIfInBounds_toArray, List.set_cons_zero, List.set_cons_succ])
        refine wpAnyH_take (i := 3) (oi := ?o56) (v := ?v56) ?hi56 ?hs56 ?hf56 ?hr56 ?hQ56 ?hy56 ?hS56 ?rest56
        case hi56 => rfl
        case hs56 => kernel_rfl
        case hf56 => kernel_rfl
        case hr56 => kernel_rfl
        case hQ56 => exact fun _ _ _ h => h
        case hS56 => assumption
        case hy56 =>
          refine Or.inl ⟨by kernel_rfl, ?_⟩
          intro w' hSw
          (try dsimp only at hSw)
          go_simp
          (try rfl)
        (try simp only [List.getElem_toArray, List.getElem_cons_succ, List.getElem_cons_zero, Act.put, List.setIfInBounds_toArray, List.set_cons_zero, List.set_cons_succ])
        refine wpAnyH_ready (rs := [4]) (by kernel_rfl) (by simp) ?_
        refine AllReadyH.cons rfl (fun K hK => ?_) AllReadyH.nil
        go_simp
        refine (specWideOk n1 h1 l1 _).mono ?_
        rintro e w9 ⟨rfl, hB9⟩
        replace hB9 := below_of_drew hB9
        have hXz := box_kept hB9
        have hBB := box_below hB9
        replace hXw := box_still hXw hBB
        replace hXx := box_still hXx hBB
        replace hXu := box_still hXu hBB
        replace hXy := box_still hXy hBB
        replace HT := Lib.hid (bt2 HT.out hBB)
        clear hBB hB9
        rw [hk1]
        refine hK.out _ _ ?_ (fun hHeld => ?_)
        · exact ⟨cell_blk hXw 0, cell_blk hXw 1, cell_blk hXw 2, cell_blk hXx 0, cell_blk hXx 1, cell_blk hXx 2, cell_blk hXz 0, cell_blk hXz 1, cell_blk hXz 2, HT.out⟩
        clear hK K
        (try simp only [List.getElem_toArray, List.getElem_cons_succ, List.getElem_cons_zero, Act.put, List.setIfInBounds_toArray, List.set_cons_zero, List.set_cons_succ])
        refine wpAnyH_take (i := 5) (oi := ?o57) (v := ?v57) ?hi57 ?hs57 ?hf57 ?hr57 ?hQ57 ?hy57 ?hS57 ?rest57
        case hi57 => rfl
        case hs57 => kernel_rfl
        case hf57 => kernel_rfl
        case hr57 => kernel_rfl
        case hQ57 => exact fun _ _ _ h => h
        case hS57 => assumption
        case hy57 =>
          refine Or.inl ⟨by kernel_rfl, ?_⟩
          intro w' hSw
          (try dsimp only at hSw)
          go_simp
          (try rfl)
        (try simp only [List.getElem_toArray, List.getElem_cons_succ, List.getElem_cons_zero, Act.put, List.setIfInBounds_toArray, List.set_cons_zero, List.set_cons_succ])
        refine wpAnyH_take (i := 6) (oi := ?o58) (v := ?v58) ?hi58 ?hs58 ?hf58 ?hr58 ?hQ58 ?hy58 ?hS58 ?rest58
        case hi58 => rfl
        case hs58 => kernel_rfl
        case hf58 => kernel_rfl
        case hr58 => kernel_rfl
        case hQ58 => exact fun _ _ _ h => h
        case hS58 => assumption
        case hy58 =>
          refine Or.inl ⟨by kernel_rfl, ?_⟩
          intro w' hSw
          (try dsimp only at hSw)
          go_simp
          (try rfl)
        (try simp only [List.getElem_toArray, List.getElem_cons_succ, List.getElem_cons_zero, Act.put, List.setIfInBounds_toArray, List.set_cons_zero, List.set_cons_succ])
        refine wpAnyH_take (i := 7) (oi := ?o59) (v := ?v59) ?hi59 ?hs59 ?hf59 ?hr59 ?hQ59 ?hy59 ?hS59 ?rest59
        case hi59 => rfl
        case hs59 => kernel_rfl
        case hf59 => kernel_rfl
        case hr59 => kernel_rfl
        case hQ59 => exact fun _ _ _ h => h
        case hS59 => assumption
        case hy59 =>
          refine Or.inl ⟨by kernel_rfl, ?_⟩
          intro w' hSw
          (try dsimp only at hSw)
          go_simp
          (try rfl)
        (try simp only [List.getElem_toArray, List.getElem_cons_succ, List.getElem_cons_zero, Act.put, List.setIfInBounds_toArray, List.set_cons_zero, List.set_cons_succ])
        refine wpAnyH_ready (rs := [8]) (by kernel_rfl) (by simp) ?_
        refine AllReadyH.cons rfl (fun K hK => ?_) AllReadyH.nil
        go_simp
        refine (specWideOk n0 h0 l0 _).mono ?_
        rintro e w10 ⟨rfl, hB10⟩
        have hBB := hB10
        replace hXw := box_still hXw hBB
        replace hXx := box_still hXx hBB
        replace hXu := box_still hXu hBB
        replace hXy := box_still hXy hBB
        replace hXz := box_still hXz hBB
        replace HT := Lib.hid (bt2 HT.out hBB)
        clear hBB hB10
        rw [hk]
        refine hK.out _ _ ?_ (fun hHeld => ?_)
        · exact ⟨cell_blk hXw 0, cell_blk hXw 1, cell_blk hXw 2, cell_blk hXx 0, cell_blk hXx 1, cell_blk hXx 2, cell_blk hXz 0, cell_blk hXz 1, cell_blk hXz 2, HT.out⟩
        clear hK K
        (try simp only [List.getElem_toArray, List.getElem_cons_succ, List.getElem_cons_zero, Act.put, List.setIfInBounds_toArray, List.set_cons_zero, List.set_cons_succ])
        refine wpAnyH_take (i := 9) (oi := ?o60) (v := ?v60) ?hi60 ?hs60 ?hf60 ?hr60 ?hQ60 ?hy60 ?hS60 ?rest60
        case hi60 => rfl
        case hs60 => kernel_rfl
        case hf60 => kernel_rfl
        case hr60 => kernel_rfl
        case hQ60 => exact fun _ _ _ h => h
        case hS60 => assumption
        case hy60 =>
          refine Or.inl ⟨by kernel_rfl, ?_⟩
          intro w' hSw
          (try dsimp only at hSw)
          go_simp
          (try rfl)
        (try simp only [List.getElem_toArray, List.getElem_cons_succ, List.getElem_cons_zero, Act.put, List.setIfInBounds_toArray, List.set_cons_zero, List.set_cons_succ])
        refine wpAnyH_take (i := 10) (oi := ?o61) (v := ?v61) ?hi61 ?hs61 ?hf61 ?hr61 ?hQ61 ?hy61 ?hS61 ?rest61
        case hi61 => rfl
        case hs61 => kernel_rfl
        case hf61 => kernel_rfl
        case hr61 => kernel_rfl
        case hQ61 => exact fun _ _ _ h => h
        case hS61 => assumption
        case hy61 =>
          refine Or.inl ⟨by kernel_rfl, ?_⟩
          intro w' hSw
          (try dsimp only at hSw)
          go_simp
          (try rfl)
        (try simp only [List.getElem_toArray, List.getElem_cons_succ, List.getElem_cons_zero, Act.put, List.setIfInBounds_toArray, List.set_cons_zero, List.set_cons_succ])
        refine wpAnyH_take (i := 11) (oi := ?o62) (v := ?v62) ?hi62 ?hs62 ?hf62 ?hr62 ?hQ62 ?hy62 ?hS62 ?rest62
        case hi62 => rfl
        case hs62 => kernel_rfl
        case hf62 => kernel_rfl
        case hr62 => kernel_rfl
        case hQ62 => exact fun _ _ _ h => h
        case hS62 => assumption
        case hy62 =>
          refine Or.inl ⟨by kernel_rfl, ?_⟩
          intro w' hSw
          (try dsimp only at hSw)
          go_simp
          (try rfl)
        (try simp only [List.getElem_toArray, List.getElem_cons_succ, List.getElem_cons_zero, Act.put, List.setIfInBounds_toArray, List.set_cons_zero, List.set_cons_succ])
        refine wpAnyH_take (i := 12) (oi := ?o63) (v := ?v63) ?hi63 ?hs63 ?hf63 ?hr63 ?hQ63 ?hy63 ?hS63 ?rest63
        case hi63 => rfl
        case hs63 => kernel_rfl
        case hf63 => kernel_rfl
        case hr63 => kernel_rfl
        case hQ63 => exact fun _ _ _ h => h
        case hS63 => assumption
        case hy63 =>
          refine Or.inl ⟨by kernel_rfl, ?_⟩
          intro w' hSw
          (try dsimp only at hSw)
          go_simp
          (try rfl)
        (try simp only [List.getElem_toArray, List.getElem_cons_succ, List.getElem_cons_zero, Act.put, List.setIfInBounds_toArray, List.set_cons_zero, List.set_cons_succ])
        refine wpAnyH_take (i := 13) (oi := ?o64) (v := ?v64) ?hi64 ?hs64 ?hf64 ?hr64 ?hQ64 ?hy64 ?hS64 ?rest64
        case hi64 => rfl
        case hs64 => kernel_rfl
        case hf64 => kernel_rfl
        case hr64 => kernel_rfl
        case hQ64 => exact fun _ _ _ h => h
        case hS64 => assumption
        case hy64 =>
          refine Or.inl ⟨by kernel_rfl, ?_⟩
          intro w' hSw
          (try dsimp only at hSw)
          go_simp
          (try rfl)
        (try simp only [List.getElem_toArray, List.getElem_cons_succ, List.getElem_cons_zero, Act.put, List.setIfInBounds_toArray, List.set_cons_zero, List.set_cons_succ])
        refine wpAnyH_take (i := 14) (oi := ?o65) (v := ?v65) ?hi65 ?hs65 ?hf65 ?hr65 ?hQ65 ?hy65 ?hS65 ?rest65
        case hi65 => rfl
        case hs65 => kernel_rfl
        case hf65 => kernel_rfl
        case hr65 => kernel_rfl
        case hQ65 => exact fun _ _ _ h => h
        case hS65 => assumption
        case hy65 =>
          refine Or.inl ⟨by kernel_rfl, ?_⟩
          intro w' hSw
          (try dsimp only at hSw)
          go_simp
          (try rfl)
        (try simp only [List.getElem_toArray, List.getElem_cons_succ, List.getElem_cons_zero, Act.put, List.setIfInBounds_toArray, List.set_cons_zero, List.set_cons_succ])
        refine wpAnyH_ready (rs := [15]) (by kernel_rfl) (by simp) ?_
        refine AllReadyH.cons rfl (fun K hK => ?_) AllReadyH.nil
        go_simp
        refine (implNegWide n0 h0 l0 hp0 lp0 _).mono ?_
        rintro e w11 ⟨rfl, hB11⟩
        have hBB := hB11
        replace hXw := box_still hXw hBB
        replace hXx := box_still hXx hBB
        replace hXu := box_still hXu hBB
        replace hXy := box_still hXy hBB
        replace hXz := box_still hXz hBB
        replace HT := Lib.hid (bt2 HT.out hBB)
        clear hBB hB11
        refine hK.out _ _ ?_ (fun hHeld => ?_)
        · exact ⟨cell_blk hXw 0, cell_blk hXw 1, cell_blk hXw 2, cell_blk hXx 0, cell_blk hXx 1, cell_blk hXx 2, cell_blk hXz 0, cell_blk hXz 1, cell_blk hXz 2, HT.out⟩
        clear hK K
        (try simp only [List.getElem_toArray, List.getElem_cons_succ, List.getElem_cons_zero, Act.put, List.setIfInBounds_toArray, List.set_cons_zero, List.set_cons_succ])
        refine wpAnyH_take (i := 16) (oi := ?o66) (v := ?v66) ?hi66 ?hs66 ?hf66 ?hr66 ?hQ66 ?hy66 ?hS66 ?rest66
        case hi66 => rfl
        case hs66 => kernel_rfl
        case hf66 => kernel_rfl
        case hr66 => kernel_rfl
        case hQ66 => exact fun _ _ _ h => h
        case hS66 => assumption
        case hy66 =>
          refine Or.inl ⟨by kernel_rfl, ?_⟩
          intro w' hSw
          (try dsimp only at hSw)
          go_simp
          (try rfl)
        (try simp only [List.getElem_toArray, List.getElem_cons_succ, List.getElem_cons_zero, Act.put, List.setIfInBounds_toArray, List.set_cons_zero, List.set_cons_succ])
        refine wpAnyH_take (i := 17) (oi := ?o67) (v := ?v67) ?hi67 ?hs67 ?hf67 ?hr67 ?hQ67 ?hy67 ?hS67 ?rest67
        case hi67 => rfl
        case hs67 => kernel_rfl
        case hf67 => kernel_rfl
        case hr67 => kernel_rfl
        case hQ67 => exact fun _ _ _ h => h
        case hS67 => assumption
        case hy67 =>
          refine Or.inl ⟨by kernel_rfl, ?_⟩
          intro w' hSw
          (try dsimp only at hSw)
          go_simp
          (try rfl)
        (try simp only [List.getElem_toArray, List.getElem_cons_succ, List.getElem_cons_zero, Act.put, List.setIfInBounds_toArray, List.set_cons_zero, List.set_cons_succ])
        refine wpAnyH_take (i := 18) (oi := ?o68) (v := ?v68) ?hi68 ?hs68 ?hf68 ?hr68 ?hQ68 ?hy68 ?hS68 ?rest68
        case hi68 => rfl
        case hs68 => kernel_rfl
        case hf68 => kernel_rfl
        case hr68 => kernel_rfl
        case hQ68 => exact fun _ _ _ h => h
        case hS68 => assumption
        case hy68 =>
          refine Or.inl ⟨by kernel_rfl, ?_⟩
          intro w' hSw
          (try dsimp only at hSw)
          go_simp
          (try rfl)
        (try simp only [List.getElem_toArray, List.getElem_cons_succ, List.getElem_cons_zero, Act.put, List.setIfInBounds_toArray, List.set_cons_zero, List.set_cons_succ])
        refine wpAnyH_take (i := 19) (oi := ?o69) (v := ?v69) ?hi69 ?hs69 ?hf69 ?hr69 ?hQ69 ?hy69 ?hS69 ?rest69
        case hi69 => rfl
        case hs69 => kernel_rfl
        case hf69 => kernel_rfl
        case hr69 => kernel_rfl
        case hQ69 => exact fun _ _ _ h => h
        case hS69 => assumption
        case hy69 =>
          refine Or.inl ⟨by kernel_rfl, ?_⟩
          intro w' hSw
          (try dsimp only at hSw)
          go_simp
          (try rfl)
        (try simp only [List.getElem_toArray, List.getElem_cons_succ, List.getElem_cons_zero, Act.put, List.setIfInBounds_toArray, List.set_cons_zero, List.set_cons_succ])
        refine wpAnyH_take (i := 20) (oi := ?o70) (v := ?v70) ?hi70 ?hs70 ?hf70 ?hr70 ?hQ70 ?hy70 ?hS70 ?rest70
        case hi70 => rfl
        case hs70 => kernel_rfl
        case hf70 => kernel_rfl
        case hr70 => kernel_rfl
        case hQ70 => exact fun _ _ _ h => h
        case hS70 => assumption
        case hy70 =>
          refine Or.inl ⟨by kernel_rfl, ?_⟩
          intro w' hSw
          (try dsimp only at hSw)
          go_simp
          (try rfl)
        (try simp only [List.getElem_toArray, List.getElem_cons_succ, List.getElem_cons_zero, Act.put, List.setIfInBounds_toArray, List.set_cons_zero, List.set_cons_succ])
        refine wpAnyH_done (by kernel_rfl) ?_ _
        refine NoPanic.normal ?_
        go_wp2_with fail
        go_ret
        exact ⟨rfl, HT.out⟩
    · replace hk : okV n0 h0 l0 = false := by simpa using hk
      obtain rfl : b = false := by
        have e := HE.out.symm.trans (scaleE_no hk)
        simp at e
        exact e.2
      refine (implScaleWide n0 h0 l0 (-1) hp0 hp1 lp0 lp1 (by omega) (by omega) _).mono ?_
      rintro e w8 ⟨rfl, hB8⟩
      have hBB := hB8
      replace hXw := box_still hXw hBB
      replace hXx := box_still hXx hBB
      replace hXu := box_still hXu hBB
      replace hXy := box_still hXy hBB
      replace HT := Lib.hid (bt2 HT.out hBB)
      clear hBB hB8
      rw [scaleE_no hk]
      go_wp2_with fail
      have hbn := box_new w8 (.cells #[.bool false, .int .u64 0, .int .u64 0] 30)
      have hD : (w8.alloc (.cells #[.bool false, .int .u64 0, .int .u64 0] 30)).drew.cell? ⟨w1.heap.size, 0, none⟩ = some (.bool n0) ∧ (w8.alloc (.cells #[.bool false, .int .u64 0, .int .u64 0] 30)).drew.cell? ⟨w1.heap.size, 1, none⟩ = some (.int .u64 h0) ∧ (w8.alloc (.cells #[.bool false, .int .u64 0, .int .u64 0] 30)).drew.cell? ⟨w1.heap.size, 2, none⟩ = some (.int .u64 l0) ∧ (w8.alloc (.cells #[.bool false, .int .u64 0, .int .u64 0] 30)).drew.cell? ⟨w2.heap.size, 0, none⟩ = some (.bool n1) ∧ (w8.alloc (.cells #[.bool false, .int .u64 0, .int .u64 0] 30)).drew.cell? ⟨w2.heap.size, 1, none⟩ = some (.int .u64 h1) ∧ (w8.alloc (.cells #[.bool false, .int .u64 0, .int .u64 0] 30)).drew.cell? ⟨w2.heap.size, 2, none⟩ = some (.int .u64 l1) ∧ (w8.alloc (.cells #[.bool false, .int .u64 0, .int .u64 0] 30)).drew.cell? ⟨w8.heap.size, 0, none⟩ = some (.bool false) ∧ (w8.alloc (.cells #[.bool false, .int .u64 0, .int .u64 0] 30)).drew.cell? ⟨w8.heap.size, 1, none⟩ = some (.int .u64 0) ∧ (w8.alloc (.cells #[.bool false, .int .u64 0, .int .u64 0] 30)).drew.cell? ⟨w8.heap.size, 2, none⟩ = some (.int .u64 0) ∧ Below w.heap.size w (w8.alloc (.cells #[.bool false, .int .u64 0, .int .u64 0] 30)).drew := ⟨kept_alloc (cell_blk hXw 0) _, kept_alloc (cell_blk hXw 1) _, kept_alloc (cell_blk hXw 2) _, kept_alloc (cell_blk hXx 0) _, kept_alloc (cell_blk hXx 1) _, kept_alloc (cell_blk hXx 2) _, cell_blk (w := (w8.alloc (.cells #[.bool false, .int .u64 0, .int .u64 0] 30))) hbn 0, cell_blk (w := (w8.alloc (.cells #[.bool false, .int .u64 0, .int .u64 0] 30))) hbn 1, cell_blk (w := (w8.alloc (.cells #[.bool false, .int .u64 0, .int .u64 0] 30))) hbn 2, (HT.out.alloc HT.out.size _).drew⟩
      clear hbn
      refine wp_region_noPanic ?_
      refine wp_region_held_drew (S := (fun w' => w'.cell? ⟨w1.heap.size, 0, none⟩ = some (.bool n0) ∧ w'.cell? ⟨w1.heap.size, 1, none⟩ = some (.int .u64 h0) ∧ w'.cell? ⟨w1.heap.size, 2, none⟩ = some (.int .u64 l0) ∧ w'.cell? ⟨w2.heap.size, 0, none⟩ = some (.bool n1) ∧ w'.cell? ⟨w2.heap.size, 1, none⟩ = some (.int .u64 h1) ∧ w'.cell? ⟨w2.heap.size, 2, none⟩ = some (.int .u64 l1) ∧ w'.cell? ⟨w8.heap.size, 0, none⟩ = some (.bool false) ∧ w'.cell? ⟨w8.heap.size, 1, none⟩ = some (.int .u64 0) ∧ w'.cell? ⟨w8.heap.size, 2, none⟩ = some (.int .u64 0) ∧ Below w.heap.size w w')) (by kernel_rfl) hD (fun hHeld => ?_)
      clear hD
      refine wpAnyH_take (i := 0) (oi := ?o71) (v := ?v71) ?hi71 ?hs71 ?hf71 ?hr71 ?hQ71 ?hy71 ?hS71 ?rest71
      case hi71 => rfl
      case hs71 => kernel_rfl
      case hf71 => kernel_rfl
      case hr71 => kernel_rfl
      case hQ71 => exact fun _ _ _ h => h
      case hS71 => assumption
      case hy71 =>
        refine Or.inl ⟨by kernel_rfl, ?_⟩
        intro w' hSw
        (try dsimp only at hSw)
        go_simp
        (try rfl)
      (try simp only [List.getElem_toArray, List.getElem_cons_zero, Act.put, List.setIfInBounds_toArray, List.set_cons_zero, List.set_cons_succ])
      refine wpAnyH_take (i := 1) (oi := ?o72) (v := ?v72) ?hi72 ?hs72 ?hf72 ?hr72 ?hQ72 ?hy72 ?hS72 ?rest72
      case hi72 => rfl
      case hs72 => kernel_rfl
      case hf72 => kernel_rfl
      case hr72 => kernel_rfl
      case hQ72 => exact fun _ _ _ h => h
      case hS72 => assumption
      case hy72 =>
        refine Or.inl ⟨by kernel_rfl, ?_⟩
        intro w' hSw
        (try dsimp only at hSw)
        go_simp
        (try rfl)
      (try simp only [List.getElem_toArray, List.getElem_cons_succ, List.getElem_cons_zero, Act.put, List.setIfInBounds_toArray, List.set_cons_zero, List.set_cons_succ])
      refine wpAnyH_take (i := 2) (oi := ?o73) (v := ?v73) ?hi73 ?hs73 ?hf73 ?hr73 ?hQ73 ?hy73 ?hS73 ?rest73
      case hi73 => rfl
      case hs73 => kernel_rfl
      case hf73 => kernel_rfl
      case hr73 => kernel_rfl
      case hQ73 => exact fun _ _ _ h => h
      case hS73 => assumption
      case hy73 =>
        refine Or.inl ⟨by kernel_rfl, ?_⟩
        intro w' hSw
        (try dsimp only at hSw)
        go_simp
        (try rfl)
      (try simp only [List.getElem_toArray, List.getElem_cons_succ, List.getElem_cons_zero, Act.put, List.setIfInBounds_toArray, List.set_cons_zero, List.set_cons_succ])
      refine wpAnyH_take (i := 3) (oi := ?o74) (v := undef) ?hi74 ?hs74 ?hf74 ?hr74 ?hQ74 ?hy74 ?hS74 ?rest74
      case hi74 => rfl
      case hs74 => kernel_rfl
      case hf74 => kernel_rfl
      case hr74 => kernel_rfl
      case hQ74 => exact fun _ _ _ h => h
      case hS74 => assumption
      case hy74 => exact Or.inr ⟨by kernel_rfl, rfl⟩
      (try simp only [List.getElem_toArray, List.getElem_cons_succ, List.getElem_cons_zero, Act.put, List.setIfInBounds_toArray, List.set_cons_zero, List.set_cons_succ])
      refine wpAnyH_take (i := 4) (oi := ?o75) (v := undef) ?hi75 ?hs75 ?hf75 ?hr75 ?hQ75 ?hy75 ?hS75 ?rest75
      case hi75 => rfl
      case hs75 => kernel_rfl
      case hf75 => kernel_rfl
      case hr75 => kernel_rfl
      case hQ75 => exact fun _ _ _ h => h
      case hS75 => assumption
      case hy75 => exact Or.inr ⟨by kernel_rfl, rfl⟩
      (try simp only [List.getElem_toArray, List.getElem_cons_succ, List.getElem_cons_zero, Act.put, List.setIfInBounds_toArray, List.set_cons_zero, List.set_cons_succ])
      refine wpAnyH_take (i := 5) (oi := ?o76) (v := ?v76) ?hi76 ?hs76 ?hf76 ?hr76 ?hQ76 ?hy76 ?hS76 ?rest76
      case hi76 => rfl
      case hs76 => kernel_rfl
      case hf76 => kernel_rfl
      case hr76 => kernel_rfl
      case hQ76 => exact fun _ _ _ h => h
      case hS76 => assumption
      case hy76 =>
        refine Or.inl ⟨by kernel_rfl, ?_⟩
        intro w' hSw
        (try dsimp only at hSw)
        go_simp
        (try rfl)
      (try simp only [List.getElem_toArray, List.getElem_cons_succ, List.getElem_cons_zero, Act.put, List.setIfInBounds_toArray, List.set_cons_zero, List.set_cons_succ])
      refine wpAnyH_take (i := 6) (oi := ?o77) (v := ?v77) ?hi77 ?hs77 ?hf77 ?hr77 ?hQ77 ?hy77 ?hS77 ?rest77
      case hi77 => rfl
      case hs77 => kernel_rfl
      case hf77 => kernel_rfl
      case hr77 => kernel_rfl
      case hQ77 => exact fun _ _ _ h => h
      case hS77 => assumption
      case hy77 =>
        refine Or.inl ⟨by kernel_rfl, ?_⟩
        intro w' hSw
        (try dsimp only at hSw)
        go_simp
        (try rfl)
      (try simp only [List.getElem_toArray, List.getElem_cons_succ, List.getElem_cons_zero, Act.put, List.setIfInBounds_toArray, List.set_cons_zero, List.set_cons_succ])
      refine wpAnyH_take (i := 7) (oi := ?o78) (v := ?v78) ?hi78 ?hs78 ?hf78 ?hr78 ?hQ78 ?hy78 ?hS78 ?rest78
      case hi78 => rfl
      case hs78 => kernel_rfl
      case hf78 => kernel_rfl
      case hr78 => kernel_rfl
      case hQ78 => exact fun _ _ _ h => h
      case hS78 => assumption
      case hy78 =>
        refine Or.inl ⟨by kernel_rfl, ?_⟩
        intro w' hSw
        (try dsimp only at hSw)
        go_simp
        (try rfl)
      (try simp only [List.getElem_toArray, List.getElem_cons_succ, List.getElem_cons_zero, Act.put, List.setIfInBounds_toArray, List.set_cons_zero, List.set_cons_succ])
      refine wpAnyH_ready (rs := [8]) (by kernel_rfl) (by simp) ?_
      refine AllReadyH.cons rfl (fun K hK => ?_) AllReadyH.nil
      go_simp
      refine (specWideOk n0 h0 l0 _).mono ?_
      rintro e w9 ⟨rfl, hB9⟩
      replace hB9 := below_of_drew hB9
      have hXz := box_kept hB9
      have hBB := box_below hB9
      replace hXw := box_still hXw hBB
      replace hXx := box_still hXx hBB
      replace hXu := box_still hXu hBB
      replace hXy := box_still hXy hBB
      replace HT := Lib.hid (bt2 HT.out hBB)
      clear hBB hB9
      rw [hk]
      refine hK.out _ _ ?_ (fun hHeld => ?_)
      · exact ⟨cell_blk hXw 0, cell_blk hXw 1, cell_blk hXw 2, cell_blk hXx 0, cell_blk hXx 1, cell_blk hXx 2, cell_blk hXz 0, cell_blk hXz 1, cell_blk hXz 2, HT.out⟩
      clear hK K
      (try simp only [List.getElem_toArray, List.getElem_cons_succ, List.getElem_cons_zero, Act.put, List.setIfInBounds_toArray, List.set_cons_zero, List.set_cons_succ])
      refine wpAnyH_take (i := 9) (oi := ?o79) (v := ?v79) ?hi79 ?hs79 ?hf79 ?hr79 ?hQ79 ?hy79 ?hS79 ?rest79
      case hi79 => rfl
      case hs79 => kernel_rfl
      case hf79 => kernel_rfl
      case hr79 => kernel_rfl
      case hQ79 => exact fun _ _ _ h => h
      case hS79 => assumption
      case hy79 =>
        refine Or.inl ⟨by kernel_rfl, ?_⟩
        intro w' hSw
        (try dsimp only at hSw)
        go_simp
        (try rfl)
      (try simp only [List.getElem_toArray, List.getElem_cons_succ, List.getElem_cons_zero, Act.put, List.setIfInBounds_toArray, List.set_cons_zero, List.set_cons_succ])
      refine wpAnyH_take (i := 10) (oi := ?o80) (v := ?v80) ?hi80 ?hs80 ?hf80 ?hr80 ?hQ80 ?hy80 ?hS80 ?rest80
      case hi80 => rfl
      case hs80 => kernel_rfl
      case hf80 => kernel_rfl
      case hr80 => kernel_rfl
      case hQ80 => exact fun _ _ _ h => h
      case hS80 => assumption
      case hy80 =>
        refine Or.inl ⟨by kernel_rfl, ?_⟩
        intro w' hSw
        (try dsimp only at hSw)
        go_simp
        (try rfl)
      (try simp only [List.getElem_toArray, List.getElem_cons_succ, List.getElem_cons_zero, Act.put, List.setIfInBounds_toArray, List.set_cons_zero, List.set_cons_succ])
      refine wpAnyH_take (i := 11) (oi := ?o81) (v := undef) ?hi81 ?hs81 ?hf81 ?hr81 ?hQ81 ?hy81 ?hS81 ?rest81
      case hi81 => rfl
      case hs81 => kernel_rfl
      case hf81 => kernel_rfl
      case hr81 => kernel_rfl
      case hQ81 => exact fun _ _ _ h => h
      case hS81 => assumption
      case hy81 => exact Or.inr ⟨by kernel_rfl, rfl⟩
      (try simp only [List.getElem_toArray, List.getElem_cons_succ, List.getElem_cons_zero, Act.put, List.setIfInBounds_toArray, List.set_cons_zero, List.set_cons_succ])
      refine wpAnyH_take (i := 12) (oi := ?o82) (v := undef) ?hi82 ?hs82 ?hf82 ?hr82 ?hQ82 ?hy82 ?hS82 ?rest82
      case hi82 => rfl
      case hs82 => kernel_rfl
      case hf82 => kernel_rfl
      case hr82 => kernel_rfl
      case hQ82 => exact fun _ _ _ h => h
      case hS82 => assumption
      case hy82 => exact Or.inr ⟨by kernel_rfl, rfl⟩
      (try simp only [List.getElem_toArray, List.getElem_cons_succ, List.getElem_cons_zero, Act.put, List.setIfInBounds_toArray, List.set_cons_zero, List.set_cons_succ])
      refine wpAnyH_take (i := 13) (oi := ?o83) (v := undef) ?hi83 ?hs83 ?hf83 ?hr83 ?hQ83 ?hy83 ?hS83 ?rest83
      case hi83 => rfl
      case hs83 => kernel_rfl
      case hf83 => kernel_rfl
      case hr83 => kernel_rfl
      case hQ83 => exact fun _ _ _ h => h
      case hS83 => assumption
      case hy83 => exact Or.inr ⟨by kernel_rfl, rfl⟩
      (try simp only [List.getElem_toArray, List.getElem_cons_succ, List.getElem_cons_zero, Act.put, List.setIfInBounds_toArray, List.set_cons_zero, List.set_cons_succ])
      refine wpAnyH_take (i := 14) (oi := ?o84) (v := undef) ?hi84 ?hs84 ?hf84 ?hr84 ?hQ84 ?hy84 ?hS84 ?rest84
      case hi84 => rfl
      case hs84 => kernel_rfl
      case hf84 => kernel_rfl
      case hr84 => kernel_rfl
      case hQ84 => exact fun _ _ _ h => h
      case hS84 => assumption
      case hy84 => exact Or.inr ⟨by kernel_rfl, rfl⟩
      (try simp only [List.getElem_toArray, List.getElem_cons_succ, List.getElem_cons_zero, Act.put, List.setIfInBounds_toArray, List.set_cons_zero, List.set_cons_succ])
      refine wpAnyH_take (i := 15) (oi := ?o85) (v := undef) ?hi85 ?hs85 ?hf85 ?hr85 ?hQ85 ?hy85 ?hS85 ?rest85
      case hi85 => rfl
      case hs85 => kernel_rfl
      case hf85 => kernel_rfl
      case hr85 => kernel_rfl
      case hQ85 => exact fun _ _ _ h => h
      case hS85 => assumption
      case hy85 => exact Or.inr ⟨by kernel_rfl, rfl⟩
      (try simp only [List.getElem_toArray, List.getElem_cons_succ, List.getElem_cons_zero, Act.put, List.setIfInBounds_toArray, List.set_cons_zero, List.set_cons_succ])
      refine wpAnyH_take (i := 16) (oi := ?o86) (v := undef) ?hi86 ?hs86 ?hf86 ?hr86 ?hQ86 ?hy86 ?hS86 ?rest86
      case hi86 => rfl
      case hs86 => kernel_rfl
      case hf86 => kernel_rfl
      case hr86 => kernel_rfl
      case hQ86 => exact fun _ _ _ h => h
      case hS86 => assumption
      case hy86 => exact Or.inr ⟨by kernel_rfl, rfl⟩
      (try simp only [List.getElem_toArray, List.getElem_cons_succ, List.getElem_cons_zero, Act.put, List.setIfInBounds_toArray, List.set_cons_zero, List.set_cons_succ])
      refine wpAnyH_take (i := 17) (oi := ?o87) (v := undef) ?hi87 ?hs87 ?hf87 ?hr87 ?hQ87 ?hy87 ?hS87 ?rest87
      case hi87 => rfl
      case hs87 => kernel_rfl
      case hf87 => kernel_rfl
      case hr87 => kernel_rfl
      case hQ87 => exact fun _ _ _ h => h
      case hS87 => assumption
      case hy87 => exact Or.inr ⟨by kernel_rfl, rfl⟩
      (try simp only [List.getElem_toArray, List.getElem_cons_succ, List.getElem_cons_zero, Act.put, List.setIfInBounds_toArray, List.set_cons_zero, List.set_cons_succ])
      refine wpAnyH_take (i := 18) (oi := ?o88) (v := ?v88) ?hi88 ?hs88 ?hf88 ?hr88 ?hQ88 ?hy88 ?hS88 ?rest88
      case hi88 => rfl
      case hs88 => kernel_rfl
      case hf88 => kernel_rfl
      case hr88 => kernel_rfl
      case hQ88 => exact fun _ _ _ h => h
      case hS88 => assumption
      case hy88 =>
        refine Or.inl ⟨by kernel_rfl, ?_⟩
        intro w' hSw
        (try dsimp only at hSw)
        go_simp
        (try rfl)
      (try simp only [List.getElem_toArray, List.getElem_cons_succ, List.getElem_cons_zero, Act.put, List.setIfInBounds_toArray, List.set_cons_zero, List.set_cons_succ])
      refine wpAnyH_take (i := 19) (oi := ?o89) (v := ?v89) ?hi89 ?hs89 ?hf89 ?hr89 ?hQ89 ?hy89 ?hS89 ?rest89
      case hi89 => rfl
      case hs89 => kernel_rfl
      case hf89 => kernel_rfl
      case hr89 => kernel_rfl
      case hQ89 => exact fun _ _ _ h => h
      case hS89 => assumption
      case hy89 =>
        refine Or.inl ⟨by kernel_rfl, ?_⟩
        intro w' hSw
        (try dsimp only at hSw)
        go_simp
        (try rfl)
      (try simp only [List.getElem_toArray, List.getElem_cons_succ, List.getElem_cons_zero, Act.put, List.setIfInBounds_toArray, List.set_cons_zero, List.set_cons_succ])
      refine wpAnyH_take (i := 20) (oi := ?o90) (v := ?v90) ?hi90 ?hs90 ?hf90 ?hr90 ?hQ90 ?hy90 ?hS90 ?rest90
      case hi90 => rfl
      case hs90 => kernel_rfl
      case hf90 => kernel_rfl
      case hr90 => kernel_rfl
      case hQ90 => exact fun _ _ _ h => h
      case hS90 => assumption
      case hy90 =>
        refine Or.inl ⟨by kernel_rfl, ?_⟩
        intro w' hSw
        (try dsimp only at hSw)
        go_simp
        (try rfl)
      (try simp only [List.getElem_toArray, List.getElem_cons_succ, List.getElem_cons_zero, Act.put, List.setIfInBounds_toArray, List.set_cons_zero, List.set_cons_succ])
      refine wpAnyH_done (by kernel_rfl) ?_ _
      refine NoPanic.normal ?_
      go_wp2_with fail
      go_ret
      exact ⟨rfl, HT.out⟩
end Go.Proofs.Ytcgboimhmklebaa
