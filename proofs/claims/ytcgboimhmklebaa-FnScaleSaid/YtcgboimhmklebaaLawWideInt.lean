
/-
  Chapter 3: the walk of the law on wide numbers and ints.
-/
import Derived.Test.YtcgboimhmklebaaLawProduct
import Derived.Test.YtcgboimhmklebaaImpS
import Derived.Deep.RegionHeld3
namespace Go.Proofs.Ytcgboimhmklebaa
open Go.RowKit

theorem room_int {a : Int} (a0 : -9223372036854775808 ≤ a) (a1 : a ≤ 9223372036854775807) : RoomW a := by unfold RoomW; omega
theorem intOf_same {n : Bool} {h l x : Int} (h0 : 0 ≤ h) (l0 : 0 ≤ l) (e : intOfE n h l = .returned (.tuple #[.int .i64 x, .bool true])) : decide (x < 0) = n ∧ h = 0 ∧ l = x.natAbs := by
  unfold intOfE at e
  split at e
  · cases e
  · rename_i k
    simp at e
    subst e
    cases n
    · simp at k ⊢
      omega
    · simp at k ⊢
      omega
theorem intOf_fits {n : Bool} {h l x : Int} (_h0 : 0 ≤ h) (l0 : 0 ≤ l) (e : intOfE n h l = .returned (.tuple #[.int .i64 x, .bool true])) : -9223372036854775808 ≤ x ∧ x ≤ 9223372036854775807 := by
  unfold intOfE at e
  split at e
  · cases e
  · rename_i k
    simp at e
    subst e
    cases n
    · simp at k ⊢
      omega
    · simp at k ⊢
      omega

theorem PairS.blocks {W w' : World} {A B : Nat} {p q : Value} {h0 l0 h1 l1 : Int} {T U : TypeId} (hA : w'.heap[A]? = some (.cells #[p, .int .u64 h0, .int .u64 l0] T (0, 0))) (hB : w'.heap[B]? = some (.cells #[q, .int .u64 h1, .int .u64 l1] U (0, 0))) (h : Below W.heap.size W w') :
    PairS W A B (fun _ => p) (fun _ => q) h0 l0 h1 l1 w'.drew :=
  ⟨cell_blk hA 0, cell_blk hA 1, cell_blk hA 2, cell_blk hB 0, cell_blk hB 1, cell_blk hB 2, fun k => free_blk (w := w') hA k, fun k => free_blk (w := w') hB k, h.drew⟩
set_option maxRecDepth 100000 in
set_option maxHeartbeats 2000000 in
theorem lawFnWideInt (w : World) (v : Value) (n : Nat) (hb : Bytes w v n) :
    Calls Try.prog 5 #[v] w fun e w' => e = .returned (.bool true) ∧ Below w.heap.size w w' := by
  by_cases hbig : 1048576 < n
  · go_enter Try.func5, Try.ntmps5
    go_wp2_with fail
    refine (big_yes w v n hb hbig).mono ?_
    rintro e w1 ⟨rfl, rfl⟩
    go_wp2_with fail
    go_ret
    exact ⟨rfl, Below.refl _ _⟩
  · go_enter Try.func5, Try.ntmps5
    go_wp2_with fail
    refine (big_no w v n hb hbig).mono ?_
    rintro e w1 ⟨rfl, rfl⟩
    go_wp2_with fail
    refine (drawWideOf w v n hb).mono ?_
    rintro e w1 ⟨⟨a, a0, a1, rfl⟩, hB1⟩
    have hBB := hB1
    have HT := Lib.hid hBB
    clear hBB hB1
    have hb1 := hb.mono HT.out
    obtain ⟨n1, h1, l1, hE⟩ := wideC_shape a
    have HE := Lib.hid hE
    have HK : Hid (okV n1 h1 l1 = true) := by
      have := wideC_ok (room_int a0 a1)
      simp only [wideC, Value.agg.injEq, Array.mk.injEq, List.cons.injEq, Value.bool.injEq, Value.int.injEq, and_true, true_and] at hE
      obtain ⟨e0, e1, e2⟩ := hE
      rw [← e0, ← e1, ← e2]; exact this
    clear hE
    go_wp2_with fail
    refine (implWideOfW a a0 a1 _).mono ?_
    rintro e w2 ⟨rfl, hB2⟩
    have hBB := hB2
    replace HT := Lib.hid (bt2 HT.out hBB)
    clear hBB hB2
    rw [HE.out]
    go_wp2_with fail
    have cs := implIntOfFit a (room_int a0 a1) (w2.alloc (.cells #[.bool n1, .int .u64 h1, .int .u64 l1] 30))
    rw [HE.out, fit_in a0 a1] at cs
    refine (cs).mono ?_
    rintro e w3 ⟨rfl, hB3⟩
    have hXx := box_kept hB3
    have hBB := box_below hB3
    replace HT := Lib.hid (bt2 HT.out hBB)
    clear hBB hB3
    clear cs
    have hb3 := hb.mono HT.out
    go_wp2_with fail
    refine (drawIntOf w3 v n hb3).mono ?_
    rintro e w4 ⟨⟨n2, h2, l2, hh, hl, rfl⟩, hB4⟩
    have hBB := hB4
    replace hXx := box_still hXx hBB
    replace HT := Lib.hid (bt2 HT.out hBB)
    clear hBB hB4
    obtain ⟨x, b, hF⟩ := intOfE_shape n2 h2 l2
    have HF := Lib.hid hF
    obtain ⟨hp0, hp1⟩ := hh
    obtain ⟨lp0, lp1⟩ := hl
    clear hF hb hb1 hb3
    cases b
    · skip
      go_wp2_with fail
      refine (implIntOf n2 h2 l2 hp0 lp0 lp1 _).mono ?_
      rintro e w5 ⟨rfl, hB5⟩
      have hXy := box_kept hB5
      have hBB := box_below hB5
      replace hXx := box_still hXx hBB
      replace HT := Lib.hid (bt2 HT.out hBB)
      clear hBB hB5
      rw [HF.out]
      have hcy0 : w5.cell? ⟨w4.heap.size, 0, none⟩ = some (.bool n2) := cell_blk hXy 0
      have hcy1 : w5.cell? ⟨w4.heap.size, 1, none⟩ = some (.int .u64 h2) := cell_blk hXy 1
      have hcy2 : w5.cell? ⟨w4.heap.size, 2, none⟩ = some (.int .u64 l2) := cell_blk hXy 2
      have hlty : w4.heap.size < w5.heap.size := blk_lt hXy
      go_wp2_with fail
      clear hcy0 hcy1 hcy2 hlty
      refine (specIntOf n2 h2 l2 hp0 lp0 lp1 _).mono ?_
      rintro e w6 ⟨rfl, hB6⟩
      have hBB := hB6
      replace hXx := box_still hXx hBB
      replace hXy := box_still hXy hBB
      replace HT := Lib.hid (bt2 HT.out hBB)
      clear hBB hB6
      rw [HF.out]
      go_wp2_with fail
      have hcx0 : w6.cell? ⟨w2.heap.size, 0, none⟩ = some (.bool n1) := cell_blk hXx 0
      have hcx1 : w6.cell? ⟨w2.heap.size, 1, none⟩ = some (.int .u64 h1) := cell_blk hXx 1
      have hcx2 : w6.cell? ⟨w2.heap.size, 2, none⟩ = some (.int .u64 l1) := cell_blk hXx 2
      have hcy0 : w6.cell? ⟨w4.heap.size, 0, none⟩ = some (.bool n2) := cell_blk hXy 0
      have hcy1 : w6.cell? ⟨w4.heap.size, 1, none⟩ = some (.int .u64 h2) := cell_blk hXy 1
      have hcy2 : w6.cell? ⟨w4.heap.size, 2, none⟩ = some (.int .u64 l2) := cell_blk hXy 2
      clear hXx hXy
      have hD : Below w.heap.size w w6.drew := HT.out.drew
      clear HT
      refine wp_region_noPanic ?_
      refine wp_region_held_drew (S := (fun w' => w'.cell? ⟨w2.heap.size, 0, none⟩ = some (.bool n1) ∧ w'.cell? ⟨w2.heap.size, 1, none⟩ = some (.int .u64 h1) ∧ w'.cell? ⟨w2.heap.size, 2, none⟩ = some (.int .u64 l1) ∧ Below w.heap.size w w')) (by kernel_rfl) ⟨hcx0, hcx1, hcx2, hD⟩ (fun hHeld => ?_)
      refine wpAnyH_take (i := 0) (oi := ?o1) (v := ?v1) ?hi1 ?hs1 ?hf1 ?hr1 ?hQ1 ?hy1 ?hS1 ?rest1
      case hi1 => rfl
      case hs1 => kernel_rfl
      case hf1 => kernel_rfl
      case hr1 => kernel_rfl
      case hQ1 => exact fun _ _ _ h => h
      case hS1 => assumption
      case hy1 =>
        refine Or.inl ⟨by kernel_rfl, ?_⟩
        intro w' hSw
        (try dsimp only at hSw)
        go_simp
        (try rfl)
      (try simp only [List.getElem_toArray, List.getElem_cons_zero, Act.put, List.setIfInBounds_toArray, List.set_cons_zero, List.set_cons_succ])
      refine wpAnyH_take (i := 1) (oi := ?o2) (v := ?v2) ?hi2 ?hs2 ?hf2 ?hr2 ?hQ2 ?hy2 ?hS2 ?rest2
      case hi2 => rfl
      case hs2 => kernel_rfl
      case hf2 => kernel_rfl
      case hr2 => kernel_rfl
      case hQ2 => exact fun _ _ _ h => h
      case hS2 => assumption
      case hy2 =>
        refine Or.inl ⟨by kernel_rfl, ?_⟩
        intro w' hSw
        (try dsimp only at hSw)
        go_simp
        (try rfl)
      (try simp only [List.getElem_toArray, List.getElem_cons_succ, List.getElem_cons_zero, Act.put, List.setIfInBounds_toArray, List.set_cons_zero, List.set_cons_succ])
      refine wpAnyH_take (i := 2) (oi := ?o3) (v := ?v3) ?hi3 ?hs3 ?hf3 ?hr3 ?hQ3 ?hy3 ?hS3 ?rest3
      case hi3 => rfl
      case hs3 => kernel_rfl
      case hf3 => kernel_rfl
      case hr3 => kernel_rfl
      case hQ3 => exact fun _ _ _ h => h
      case hS3 => assumption
      case hy3 =>
        refine Or.inl ⟨by kernel_rfl, ?_⟩
        intro w' hSw
        (try dsimp only at hSw)
        go_simp
        (try rfl)
      (try simp only [List.getElem_toArray, List.getElem_cons_succ, List.getElem_cons_zero, Act.put, List.setIfInBounds_toArray, List.set_cons_zero, List.set_cons_succ])
      refine wpAnyH_take (i := 3) (oi := ?o4) (v := ?v4) ?hi4 ?hs4 ?hf4 ?hr4 ?hQ4 ?hy4 ?hS4 ?rest4
      case hi4 => rfl
      case hs4 => kernel_rfl
      case hf4 => kernel_rfl
      case hr4 => kernel_rfl
      case hQ4 => exact fun _ _ _ h => h
      case hS4 => assumption
      case hy4 =>
        refine Or.inl ⟨by kernel_rfl, ?_⟩
        intro w' hSw
        (try dsimp only at hSw)
        go_simp
        (try rfl)
      (try simp only [List.getElem_toArray, List.getElem_cons_succ, List.getElem_cons_zero, Act.put, List.setIfInBounds_toArray, List.set_cons_zero, List.set_cons_succ])
      refine wpAnyH_take (i := 4) (oi := ?o5) (v := ?v5) ?hi5 ?hs5 ?hf5 ?hr5 ?hQ5 ?hy5 ?hS5 ?rest5
      case hi5 => rfl
      case hs5 => kernel_rfl
      case hf5 => kernel_rfl
      case hr5 => kernel_rfl
      case hQ5 => exact fun _ _ _ h => h
      case hS5 => assumption
      case hy5 =>
        refine Or.inl ⟨by kernel_rfl, ?_⟩
        intro w' hSw
        (try dsimp only at hSw)
        go_simp
        (try rfl)
      (try simp only [List.getElem_toArray, List.getElem_cons_succ, List.getElem_cons_zero, Act.put, List.setIfInBounds_toArray, List.set_cons_zero, List.set_cons_succ])
      refine wpAnyH_take (i := 5) (oi := ?o6) (v := ?v6) ?hi6 ?hs6 ?hf6 ?hr6 ?hQ6 ?hy6 ?hS6 ?rest6
      case hi6 => rfl
      case hs6 => kernel_rfl
      case hf6 => kernel_rfl
      case hr6 => kernel_rfl
      case hQ6 => exact fun _ _ _ h => h
      case hS6 => assumption
      case hy6 =>
        refine Or.inl ⟨by kernel_rfl, ?_⟩
        intro w' hSw
        (try dsimp only at hSw)
        go_simp
        (try rfl)
      (try simp only [List.getElem_toArray, List.getElem_cons_succ, List.getElem_cons_zero, Act.put, List.setIfInBounds_toArray, List.set_cons_zero, List.set_cons_succ])
      refine wpAnyH_take (i := 6) (oi := ?o7) (v := ?v7) ?hi7 ?hs7 ?hf7 ?hr7 ?hQ7 ?hy7 ?hS7 ?rest7
      case hi7 => rfl
      case hs7 => kernel_rfl
      case hf7 => kernel_rfl
      case hr7 => kernel_rfl
      case hQ7 => exact fun _ _ _ h => h
      case hS7 => assumption
      case hy7 =>
        refine Or.inl ⟨by kernel_rfl, ?_⟩
        intro w' hSw
        (try dsimp only at hSw)
        go_simp
        (try rfl)
      (try simp only [List.getElem_toArray, List.getElem_cons_succ, List.getElem_cons_zero, Act.put, List.setIfInBounds_toArray, List.set_cons_zero, List.set_cons_succ])
      refine wpAnyH_take (i := 7) (oi := ?o8) (v := ?v8) ?hi8 ?hs8 ?hf8 ?hr8 ?hQ8 ?hy8 ?hS8 ?rest8
      case hi8 => rfl
      case hs8 => kernel_rfl
      case hf8 => kernel_rfl
      case hr8 => kernel_rfl
      case hQ8 => exact fun _ _ _ h => h
      case hS8 => assumption
      case hy8 =>
        refine Or.inl ⟨by kernel_rfl, ?_⟩
        intro w' hSw
        (try dsimp only at hSw)
        go_simp
        (try rfl)
      (try simp only [List.getElem_toArray, List.getElem_cons_succ, List.getElem_cons_zero, Act.put, List.setIfInBounds_toArray, List.set_cons_zero, List.set_cons_succ])
      refine wpAnyH_ready (rs := [8]) (by kernel_rfl) (by simp) ?_
      refine AllReadyH.cons rfl (fun K hK => ?_) AllReadyH.nil
      go_simp
      refine (specWideOk n1 h1 l1 _).mono ?_
      rintro e w9 ⟨rfl, hB9⟩
      rw [HK.out]
      have hP : w9.cell? ⟨w2.heap.size, 0, none⟩ = some (.bool n1) ∧ w9.cell? ⟨w2.heap.size, 1, none⟩ = some (.int .u64 h1) ∧ w9.cell? ⟨w2.heap.size, 2, none⟩ = some (.int .u64 l1) ∧ Below w.heap.size w w9 := ⟨below_cell hHeld.1 hB9, below_cell hHeld.2.1 hB9, below_cell hHeld.2.2.1 hB9, bt2 hHeld.2.2.2 hB9⟩
      refine hK.out _ _ ?_ (fun hHeld => ?_)
      · exact hP
      clear hK K
      (try simp only [List.getElem_toArray, List.getElem_cons_succ, List.getElem_cons_zero, Act.put, List.setIfInBounds_toArray, List.set_cons_zero, List.set_cons_succ])
      refine wpAnyH_take (i := 9) (oi := ?o9) (v := ?v9) ?hi9 ?hs9 ?hf9 ?hr9 ?hQ9 ?hy9 ?hS9 ?rest9
      case hi9 => rfl
      case hs9 => kernel_rfl
      case hf9 => kernel_rfl
      case hr9 => kernel_rfl
      case hQ9 => exact fun _ _ _ h => h
      case hS9 => assumption
      case hy9 =>
        refine Or.inl ⟨by kernel_rfl, ?_⟩
        intro w' hSw
        (try dsimp only at hSw)
        go_simp
        (try rfl)
      (try simp only [List.getElem_toArray, List.getElem_cons_succ, List.getElem_cons_zero, Act.put, List.setIfInBounds_toArray, List.set_cons_zero, List.set_cons_succ])
      refine wpAnyH_take (i := 10) (oi := ?o10) (v := ?v10) ?hi10 ?hs10 ?hf10 ?hr10 ?hQ10 ?hy10 ?hS10 ?rest10
      case hi10 => rfl
      case hs10 => kernel_rfl
      case hf10 => kernel_rfl
      case hr10 => kernel_rfl
      case hQ10 => exact fun _ _ _ h => h
      case hS10 => assumption
      case hy10 =>
        refine Or.inl ⟨by kernel_rfl, ?_⟩
        intro w' hSw
        (try dsimp only at hSw)
        go_simp
        (try rfl)
      (try simp only [List.getElem_toArray, List.getElem_cons_succ, List.getElem_cons_zero, Act.put, List.setIfInBounds_toArray, List.set_cons_zero, List.set_cons_succ])
      refine wpAnyH_take (i := 11) (oi := ?o11) (v := ?v11) ?hi11 ?hs11 ?hf11 ?hr11 ?hQ11 ?hy11 ?hS11 ?rest11
      case hi11 => rfl
      case hs11 => kernel_rfl
      case hf11 => kernel_rfl
      case hr11 => kernel_rfl
      case hQ11 => exact fun _ _ _ h => h
      case hS11 => assumption
      case hy11 =>
        refine Or.inl ⟨by kernel_rfl, ?_⟩
        intro w' hSw
        (try dsimp only at hSw)
        go_simp
        (try rfl)
      (try simp only [List.getElem_toArray, List.getElem_cons_succ, List.getElem_cons_zero, Act.put, List.setIfInBounds_toArray, List.set_cons_zero, List.set_cons_succ])
      refine wpAnyH_take (i := 12) (oi := ?o12) (v := ?v12) ?hi12 ?hs12 ?hf12 ?hr12 ?hQ12 ?hy12 ?hS12 ?rest12
      case hi12 => rfl
      case hs12 => kernel_rfl
      case hf12 => kernel_rfl
      case hr12 => kernel_rfl
      case hQ12 => exact fun _ _ _ h => h
      case hS12 => assumption
      case hy12 =>
        refine Or.inl ⟨by kernel_rfl, ?_⟩
        intro w' hSw
        (try dsimp only at hSw)
        go_simp
        (try rfl)
      (try simp only [List.getElem_toArray, List.getElem_cons_succ, List.getElem_cons_zero, Act.put, List.setIfInBounds_toArray, List.set_cons_zero, List.set_cons_succ])
      refine wpAnyH_take (i := 13) (oi := ?o13) (v := ?v13) ?hi13 ?hs13 ?hf13 ?hr13 ?hQ13 ?hy13 ?hS13 ?rest13
      case hi13 => rfl
      case hs13 => kernel_rfl
      case hf13 => kernel_rfl
      case hr13 => kernel_rfl
      case hQ13 => exact fun _ _ _ h => h
      case hS13 => assumption
      case hy13 =>
        refine Or.inl ⟨by kernel_rfl, ?_⟩
        intro w' hSw
        (try dsimp only at hSw)
        go_simp
        (try rfl)
      (try simp only [List.getElem_toArray, List.getElem_cons_succ, List.getElem_cons_zero, Act.put, List.setIfInBounds_toArray, List.set_cons_zero, List.set_cons_succ])
      refine wpAnyH_take (i := 14) (oi := ?o14) (v := ?v14) ?hi14 ?hs14 ?hf14 ?hr14 ?hQ14 ?hy14 ?hS14 ?rest14
      case hi14 => rfl
      case hs14 => kernel_rfl
      case hf14 => kernel_rfl
      case hr14 => kernel_rfl
      case hQ14 => exact fun _ _ _ h => h
      case hS14 => assumption
      case hy14 =>
        refine Or.inl ⟨by kernel_rfl, ?_⟩
        intro w' hSw
        (try dsimp only at hSw)
        go_simp
        (try rfl)
      (try simp only [List.getElem_toArray, List.getElem_cons_succ, List.getElem_cons_zero, Act.put, List.setIfInBounds_toArray, List.set_cons_zero, List.set_cons_succ])
      refine wpAnyH_take (i := 15) (oi := ?o15) (v := ?v15) ?hi15 ?hs15 ?hf15 ?hr15 ?hQ15 ?hy15 ?hS15 ?rest15
      case hi15 => rfl
      case hs15 => kernel_rfl
      case hf15 => kernel_rfl
      case hr15 => kernel_rfl
      case hQ15 => exact fun _ _ _ h => h
      case hS15 => assumption
      case hy15 =>
        refine Or.inl ⟨by kernel_rfl, ?_⟩
        intro w' hSw
        (try dsimp only at hSw)
        go_simp
        (try rfl)
      (try simp only [List.getElem_toArray, List.getElem_cons_succ, List.getElem_cons_zero, Act.put, List.setIfInBounds_toArray, List.set_cons_zero, List.set_cons_succ])
      refine wpAnyH_take (i := 16) (oi := ?o16) (v := ?v16) ?hi16 ?hs16 ?hf16 ?hr16 ?hQ16 ?hy16 ?hS16 ?rest16
      case hi16 => rfl
      case hs16 => kernel_rfl
      case hf16 => kernel_rfl
      case hr16 => kernel_rfl
      case hQ16 => exact fun _ _ _ h => h
      case hS16 => assumption
      case hy16 =>
        refine Or.inl ⟨by kernel_rfl, ?_⟩
        intro w' hSw
        (try dsimp only at hSw)
        go_simp
        (try rfl)
      (try simp only [List.getElem_toArray, List.getElem_cons_succ, List.getElem_cons_zero, Act.put, List.setIfInBounds_toArray, List.set_cons_zero, List.set_cons_succ])
      refine wpAnyH_take (i := 17) (oi := ?o17) (v := ?v17) ?hi17 ?hs17 ?hf17 ?hr17 ?hQ17 ?hy17 ?hS17 ?rest17
      case hi17 => rfl
      case hs17 => kernel_rfl
      case hf17 => kernel_rfl
      case hr17 => kernel_rfl
      case hQ17 => exact fun _ _ _ h => h
      case hS17 => assumption
      case hy17 =>
        refine Or.inl ⟨by kernel_rfl, ?_⟩
        intro w' hSw
        (try dsimp only at hSw)
        go_simp
        (try rfl)
      (try simp only [List.getElem_toArray, List.getElem_cons_succ, List.getElem_cons_zero, Act.put, List.setIfInBounds_toArray, List.set_cons_zero, List.set_cons_succ])
      refine wpAnyH_take (i := 18) (oi := ?o18) (v := ?v18) ?hi18 ?hs18 ?hf18 ?hr18 ?hQ18 ?hy18 ?hS18 ?rest18
      case hi18 => rfl
      case hs18 => kernel_rfl
      case hf18 => kernel_rfl
      case hr18 => kernel_rfl
      case hQ18 => exact fun _ _ _ h => h
      case hS18 => assumption
      case hy18 =>
        refine Or.inl ⟨by kernel_rfl, ?_⟩
        intro w' hSw
        (try dsimp only at hSw)
        go_simp
        (try rfl)
      (try simp only [List.getElem_toArray, List.getElem_cons_succ, List.getElem_cons_zero, Act.put, List.setIfInBounds_toArray, List.set_cons_zero, List.set_cons_succ])
      refine wpAnyH_take (i := 19) (oi := ?o19) (v := undef) ?hi19 ?hs19 ?hf19 ?hr19 ?hQ19 ?hy19 ?hS19 ?rest19
      case hi19 => rfl
      case hs19 => kernel_rfl
      case hf19 => kernel_rfl
      case hr19 => kernel_rfl
      case hQ19 => exact fun _ _ _ h => h
      case hS19 => assumption
      case hy19 => exact Or.inr ⟨by kernel_rfl, rfl⟩
      (try simp only [List.getElem_toArray, List.getElem_cons_succ, List.getElem_cons_zero, Act.put, List.setIfInBounds_toArray, List.set_cons_zero, List.set_cons_succ])
      refine wpAnyH_take (i := 20) (oi := ?o20) (v := undef) ?hi20 ?hs20 ?hf20 ?hr20 ?hQ20 ?hy20 ?hS20 ?rest20
      case hi20 => rfl
      case hs20 => kernel_rfl
      case hf20 => kernel_rfl
      case hr20 => kernel_rfl
      case hQ20 => exact fun _ _ _ h => h
      case hS20 => assumption
      case hy20 => exact Or.inr ⟨by kernel_rfl, rfl⟩
      (try simp only [List.getElem_toArray, List.getElem_cons_succ, List.getElem_cons_zero, Act.put, List.setIfInBounds_toArray, List.set_cons_zero, List.set_cons_succ])
      refine wpAnyH_take (i := 21) (oi := ?o21) (v := undef) ?hi21 ?hs21 ?hf21 ?hr21 ?hQ21 ?hy21 ?hS21 ?rest21
      case hi21 => rfl
      case hs21 => kernel_rfl
      case hf21 => kernel_rfl
      case hr21 => kernel_rfl
      case hQ21 => exact fun _ _ _ h => h
      case hS21 => assumption
      case hy21 => exact Or.inr ⟨by kernel_rfl, rfl⟩
      (try simp only [List.getElem_toArray, List.getElem_cons_succ, List.getElem_cons_zero, Act.put, List.setIfInBounds_toArray, List.set_cons_zero, List.set_cons_succ])
      refine wpAnyH_take (i := 22) (oi := ?o22) (v := undef) ?hi22 ?hs22 ?hf22 ?hr22 ?hQ22 ?hy22 ?hS22 ?rest22
      case hi22 => rfl
      case hs22 => kernel_rfl
      case hf22 => kernel_rfl
      case hr22 => kernel_rfl
      case hQ22 => exact fun _ _ _ h => h
      case hS22 => assumption
      case hy22 => exact Or.inr ⟨by kernel_rfl, rfl⟩
      (try simp only [List.getElem_toArray, List.getElem_cons_succ, List.getElem_cons_zero, Act.put, List.setIfInBounds_toArray, List.set_cons_zero, List.set_cons_succ])
      refine wpAnyH_take (i := 23) (oi := ?o23) (v := ?v23) ?hi23 ?hs23 ?hf23 ?hr23 ?hQ23 ?hy23 ?hS23 ?rest23
      case hi23 => rfl
      case hs23 => kernel_rfl
      case hf23 => kernel_rfl
      case hr23 => kernel_rfl
      case hQ23 => exact fun _ _ _ h => h
      case hS23 => assumption
      case hy23 =>
        refine Or.inl ⟨by kernel_rfl, ?_⟩
        intro w' hSw
        (try dsimp only at hSw)
        go_simp
        (try rfl)
      (try simp only [List.getElem_toArray, List.getElem_cons_succ, List.getElem_cons_zero, Act.put, List.setIfInBounds_toArray, List.set_cons_zero, List.set_cons_succ])
      refine wpAnyH_take (i := 24) (oi := ?o24) (v := ?v24) ?hi24 ?hs24 ?hf24 ?hr24 ?hQ24 ?hy24 ?hS24 ?rest24
      case hi24 => rfl
      case hs24 => kernel_rfl
      case hf24 => kernel_rfl
      case hr24 => kernel_rfl
      case hQ24 => exact fun _ _ _ h => h
      case hS24 => assumption
      case hy24 =>
        refine Or.inl ⟨by kernel_rfl, ?_⟩
        intro w' hSw
        (try dsimp only at hSw)
        go_simp
        (try rfl)
      (try simp only [List.getElem_toArray, List.getElem_cons_succ, List.getElem_cons_zero, Act.put, List.setIfInBounds_toArray, List.set_cons_zero, List.set_cons_succ])
      refine wpAnyH_take (i := 25) (oi := ?o25) (v := ?v25) ?hi25 ?hs25 ?hf25 ?hr25 ?hQ25 ?hy25 ?hS25 ?rest25
      case hi25 => rfl
      case hs25 => kernel_rfl
      case hf25 => kernel_rfl
      case hr25 => kernel_rfl
      case hQ25 => exact fun _ _ _ h => h
      case hS25 => assumption
      case hy25 =>
        refine Or.inl ⟨by kernel_rfl, ?_⟩
        intro w' hSw
        (try dsimp only at hSw)
        go_simp
        (try rfl)
      (try simp only [List.getElem_toArray, List.getElem_cons_succ, List.getElem_cons_zero, Act.put, List.setIfInBounds_toArray, List.set_cons_zero, List.set_cons_succ])
      refine wpAnyH_done (by kernel_rfl) ?_ _
      refine NoPanic.normal ?_
      go_wp2_with fail
      go_ret
      exact ⟨rfl, hHeld.2.2.2⟩
    · obtain ⟨x0, x1⟩ := intOf_fits hp0 lp0 HF.out
      obtain ⟨rfl, rfl, rfl⟩ := intOf_same hp0 lp0 HF.out
      go_wp2_with fail
      refine (implIntOf (decide (x < 0)) 0 x.natAbs hp0 lp0 lp1 _).mono ?_
      rintro e w5 ⟨rfl, hB5⟩
      have hXy := box_kept hB5
      have hBB := box_below hB5
      replace hXx := box_still hXx hBB
      replace HT := Lib.hid (bt2 HT.out hBB)
      clear hBB hB5
      rw [HF.out]
      have hcy0 : w5.cell? ⟨w4.heap.size, 0, none⟩ = some (.bool (decide (x < 0))) := cell_blk hXy 0
      have hcy1 : w5.cell? ⟨w4.heap.size, 1, none⟩ = some (.int .u64 0) := cell_blk hXy 1
      have hcy2 : w5.cell? ⟨w4.heap.size, 2, none⟩ = some (.int .u64 x.natAbs) := cell_blk hXy 2
      have hlty : w4.heap.size < w5.heap.size := blk_lt hXy
      go_wp2_with fail
      clear hcy0 hcy1 hcy2 hlty
      refine (specIntOf (decide (x < 0)) 0 x.natAbs hp0 lp0 lp1 _).mono ?_
      rintro e w6 ⟨rfl, hB6⟩
      have hBB := hB6
      replace hXx := box_still hXx hBB
      replace hXy := box_still hXy hBB
      replace HT := Lib.hid (bt2 HT.out hBB)
      clear hBB hB6
      rw [HF.out]
      go_wp2_with fail
      have hD := PairS.blocks hXx hXy HT.out
      have hPZ := hD
      clear hXx hXy HT
      go_region_held3 (fun w' => w'.cell? ⟨w2.heap.size, 0, none⟩ = some (.bool n1) ∧ w'.cell? ⟨w2.heap.size, 1, none⟩ = some (.int .u64 h1) ∧ w'.cell? ⟨w2.heap.size, 2, none⟩ = some (.int .u64 l1) ∧ w'.cell? ⟨w4.heap.size, 0, none⟩ = some (.bool (decide (x < 0))) ∧ w'.cell? ⟨w4.heap.size, 1, none⟩ = some (.int .u64 0) ∧ w'.cell? ⟨w4.heap.size, 2, none⟩ = some (.int .u64 x.natAbs) ∧ (∀ k, w'.frozen? ⟨w2.heap.size, k, none⟩ = false) ∧ (∀ k, w'.frozen? ⟨w4.heap.size, k, none⟩ = false) ∧ Below w.heap.size w w') (with_reducible assumption)
        (first | (go_at_call 26; refine (PairS.call (W := w) (h0 := h1) (l0 := l1) (h1 := 0) (l1 := x.natAbs) (keepsC_at w2.heap.size (.bool n1)) (keepsC_at w4.heap.size (.bool (decide (x < 0)))) (specWideOk n1 h1 l1 _) ?_).mono ?_; (with_reducible assumption); rintro e w9 ⟨rfl, hP⟩; rw [HK.out]) | (go_at_call 25; refine (PairS.call (W := w) (h0 := h1) (l0 := l1) (h1 := 0) (l1 := x.natAbs) (keepsC_at w2.heap.size (.bool n1)) (keepsC_at w4.heap.size (.bool (decide (x < 0)))) (implWideOf x x0 x1 _) ?_).mono ?_; (with_reducible assumption); rintro e w9 ⟨rfl, hP⟩))
      go_wp2_with fail
      all_goals (go_ret; exact ⟨by first | rfl | simp, hP.2.2.2.2.2.2.2.2⟩)
end Go.Proofs.Ytcgboimhmklebaa
