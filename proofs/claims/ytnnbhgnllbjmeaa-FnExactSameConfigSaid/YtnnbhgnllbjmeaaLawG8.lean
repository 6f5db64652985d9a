/-
  The walks of the exact laws on settings; the program's contracts are hypotheses.
-/
import Derived.Test.YtnnbhgnllbjmeaaLawB8
namespace Go.Proofs.Ytnnbhgnllbjmeaa
open Go.RowKit

/-- What the program is to answer for settings. -/
def ImplUsual : Prop := ∀ (w : World), Calls Try.prog 13 #[] w fun e w' => (∃ v, e = .returned (.agg #[.int .i64 4, .int .i64 2, .int .i64 4, .int .i64 1, .int .i64 1, .int .i64 1, .int .i64 1, v]) ∧ w'.ownsRow w.heap.size 3 1 v 0 []) ∧ Below w.heap.size w w'
def ImplOk : Prop := ∀ (C : Cfg) (u : Value) (w : World), IntRow w u C.s → C.s.length ≤ 16777216 → Calls Try.prog 20 #[.agg #[.int .i64 C.r, .int .i64 C.d, .int .i64 C.b, .int .i64 C.l, .int .i64 C.m, .int .i64 C.n, .int .i64 C.e, u]] w fun e w' => e = .returned (.bool (okC C)) ∧ Below w.heap.size w w'
def ImplSign : Prop := ∀ (C : Cfg) (u : Value) (f : Int) (w : World), IntRow w u C.s → C.s.length ≤ 16777216 → -9223372036854775808 ≤ f → f ≤ 9223372036854775807 → Calls Try.prog 10 #[.agg #[.int .i64 C.r, .int .i64 C.d, .int .i64 C.b, .int .i64 C.l, .int .i64 C.m, .int .i64 C.n, .int .i64 C.e, u], .int .i64 f] w fun e w' => e = .returned (.int .i64 (signC C f)) ∧ Below w.heap.size w w'
def ImplSameC : Prop := ∀ (A B : Cfg) (u v : Value) (w : World), IntRow w u A.s → IntRow w v B.s → A.s.length ≤ 16777216 → B.s.length ≤ 16777216 → Calls Try.prog 22 #[.agg #[.int .i64 A.r, .int .i64 A.d, .int .i64 A.b, .int .i64 A.l, .int .i64 A.m, .int .i64 A.n, .int .i64 A.e, u], .agg #[.int .i64 B.r, .int .i64 B.d, .int .i64 B.b, .int .i64 B.l, .int .i64 B.m, .int .i64 B.n, .int .i64 B.e, v]] w fun e w' => e = .returned (.bool (sameC A B)) ∧ Below w.heap.size w w'

set_option maxRecDepth 100000 in
set_option maxHeartbeats 8000000 in
theorem lawExConfigOk (hI : ImplOk) (C : Cfg) (u : Value) (w : World) (h : IntRow w u C.s) :
    Calls Try.prog 5 #[.agg #[.int .i64 C.r, .int .i64 C.d, .int .i64 C.b, .int .i64 C.l, .int .i64 C.m, .int .i64 C.n, .int .i64 C.e, u]] w fun e w' => e = .returned (.bool true) ∧ Below w.heap.size w w' := by
  obtain ⟨a, c, rfl, hl9, _⟩ := intRow_form h
  by_cases hov : 1048576 < C.s.length
  · go_enter Try.func5, Try.ntmps5
    go_wp2_with fail
    refine (szCfg_not C _ 1048576 _ (h.below (below_al w _)) (by omega) hov).mono ?_
    rintro e w1 ⟨rfl, hB1⟩
    go_wp2_with fail
    go_ret
    exact ⟨rfl, bt (below_al w _) hB1⟩
  · have hl : C.s.length ≤ 1048576 := by omega
    obtain ⟨r, hr⟩ : ∃ r : Nat, 1048576 - C.s.length = r := ⟨_, rfl⟩
    have hr0 : ¬ (r : Int) < 0 := by omega
    have hsz := szCfg_fits C (.slice a C.s.length c) 1048576 (w.alloc (.cells #[.int .i64 C.r, .int .i64 C.d, .int .i64 C.b, .int .i64 C.l, .int .i64 C.m, .int .i64 C.n, .int .i64 C.e, .slice a C.s.length c] 33)) (h.below (below_al w _)) (by omega) hl
    rw [hr] at hsz
    have HSZ := Lib.hid hsz
    have h0 := Lib.hid h
    have HI := Lib.hid hI
    obtain ⟨sb, hsb⟩ : ∃ sb, okC C = sb := ⟨_, rfl⟩
    have HSB := Lib.hid hsb
    clear hsb
    have hbb : (sb != sb) = false := by cases sb <;> rfl
    clear hsz hr hov h hI
    go_enter Try.func5, Try.ntmps5
    go_wp2_with fail
    refine HSZ.out.mono ?_
    rintro e w1 ⟨rfl, hB1⟩
    have B01 := bt (below_al w _) hB1
    have X1 := Lib.hid (blk_next (alloc_blk w #[.int .i64 C.r, .int .i64 C.d, .int .i64 C.b, .int .i64 C.l, .int .i64 C.m, .int .i64 C.n, .int .i64 C.e, .slice a C.s.length c] 33) hB1)
    clear hB1
    have ca0 := cell_blk X1.out 0
    have ca1 := cell_blk X1.out 1
    have ca2 := cell_blk X1.out 2
    have ca3 := cell_blk X1.out 3
    have ca4 := cell_blk X1.out 4
    have ca5 := cell_blk X1.out 5
    have ca6 := cell_blk X1.out 6
    have ca7 := cell_blk X1.out 7
    have la := blk_lt X1.out
    go_wp2_with fail
    refine (toCfg C _ _ (h0.out.below B01) hl).mono ?_
    rintro e w2 ⟨⟨v2, rfl, ho2⟩, B12⟩
    have R2 := Lib.hid (intRow_of_owns ho2 (by omega))
    have X2 := Lib.hid (blk_next X1.out B12)
    have B02 := Lib.hid (bt B01 B12)
    clear ca0 ca1 ca2 ca3 ca4 ca5 ca6 ca7 la
    clear ho2 B12 B01 X1
    go_wp2_with fail
    refine (specConfigOk C v2 w2 R2.out).mono ?_
    rintro e w3 ⟨rfl, B23⟩
    rw [HSB.out]
    have X3 := Lib.hid (blk_next X2.out B23)
    have B03 := Lib.hid (bt B02.out B23)
    clear B23 X2 B02 R2
    have ca0 := cell_blk X3.out 0
    have ca1 := cell_blk X3.out 1
    have ca2 := cell_blk X3.out 2
    have ca3 := cell_blk X3.out 3
    have ca4 := cell_blk X3.out 4
    have ca5 := cell_blk X3.out 5
    have ca6 := cell_blk X3.out 6
    have ca7 := cell_blk X3.out 7
    have la := blk_lt X3.out
    go_wp2_with fail
    refine (toCfg C _ _ (h0.out.below B03.out) hl).mono ?_
    rintro e w4 ⟨⟨v4, rfl, ho4⟩, B34⟩
    have R4 := Lib.hid (intRow_of_owns ho4 (by omega))
    have X4 := Lib.hid (blk_next X3.out B34)
    have B04 := Lib.hid (bt B03.out B34)
    clear ca0 ca1 ca2 ca3 ca4 ca5 ca6 ca7 la
    clear ho4 B34 B03 X3
    obtain ⟨a4, c4, rfl, _⟩ := intRow_form R4.out
    go_wp2_with fail
    have hA4 := below_al w4 (.cells #[.int .i64 C.r, .int .i64 C.d, .int .i64 C.b, .int .i64 C.l, .int .i64 C.m, .int .i64 C.n, .int .i64 C.e, .slice a4 C.s.length c4] 26)
    refine (HI.out C _ _ (R4.out.below hA4) (by omega)).mono ?_
    rintro e w5 ⟨rfl, B45⟩
    rw [HSB.out]
    have hP9 := blk_next (alloc_blk w4 #[.int .i64 C.r, .int .i64 C.d, .int .i64 C.b, .int .i64 C.l, .int .i64 C.m, .int .i64 C.n, .int .i64 C.e, .slice a4 C.s.length c4] 26) B45
    have hA9 := blk_next (blk_alloc X4.out _) B45
    have hX9 := (R4.out.below hA4).below B45
    have B05 := bt (bt B04.out hA4) B45
    have hR9 := h0.out.below B05
    clear X4 B04 R4 hA4 B45
    go_wp2_with fail
    have hS9 : TwS w5 w4.heap.size w.heap.size C C (.slice a4 C.s.length c4) (.slice a C.s.length c) w5.drew := TwS.mk (hP9) (hA9) (Below.refl _ _).drew
    refine wp_region_noPanic ?_
    refine wp_region_held_drew (S := (TwS w5 w4.heap.size w.heap.size C C (.slice a4 C.s.length c4) (.slice a C.s.length c))) (by kernel_rfl) hS9 (fun hHeld => ?_)
    clear hS9
    refine wpAnyH_take (i := 0) (oi := ?o1) (v := ?v1) ?hi1 ?hs1 ?hf1 ?hr1 ?hQ1 ?hy1 ?hS1 ?rest1
    case hi1 => rfl
    case hs1 => kernel_rfl
    case hf1 => kernel_rfl
    case hr1 => kernel_rfl
    case hQ1 => exact fun _ _ _ h => h
    case hS1 => assumption
    case hy1 =>
      refine Or.inl ⟨by kernel_rfl, ?_⟩
      intro w' hSw
      (try dsimp only at hSw)
      go_simp
      (try rfl)
    (try simp only [List.getElem_toArray, List.getElem_cons_zero, Act.put, List.setIfInBounds_toArray, List.set_cons_zero, List.set_cons_succ])
    refine wpAnyH_take (i := 1) (oi := ?o2) (v := ?v2) ?hi2 ?hs2 ?hf2 ?hr2 ?hQ2 ?hy2 ?hS2 ?rest2
    case hi2 => rfl
    case hs2 => kernel_rfl
    case hf2 => kernel_rfl
    case hr2 => kernel_rfl
    case hQ2 => exact fun _ _ _ h => h
    case hS2 => assumption
    case hy2 =>
      refine Or.inl ⟨by kernel_rfl, ?_⟩
      intro w' hSw
      (try dsimp only at hSw)
      go_simp
      (try rfl)
    (try simp only [List.getElem_toArray, List.getElem_cons_succ, List.getElem_cons_zero, Act.put, List.setIfInBounds_toArray, List.set_cons_zero, List.set_cons_succ])
    refine wpAnyH_ready (rs := [2]) (by kernel_rfl) (by simp) ?_
    refine AllReadyH.cons rfl (fun K hK => ?_) AllReadyH.nil
    · go_simp
      refine (toCfg C _ _ (IntRow.drew hR9) (by omega)).mono ?_
      rintro e wa9 ⟨⟨va9, rfl, hoa9⟩, hBa9⟩
      refine hK.out _ _ ?_ (fun hHeld => ?_)
      · exact SmS.next hHeld hBa9
      clear hK K
      (try simp only [List.getElem_toArray, List.getElem_cons_succ, List.getElem_cons_zero, Act.put, List.setIfInBounds_toArray, List.set_cons_zero, List.set_cons_succ])
      refine wpAnyH_ready (rs := [3]) (by kernel_rfl) (by simp) ?_
      refine AllReadyH.cons rfl (fun K hK => ?_) AllReadyH.nil
      · go_simp
        refine (eqCfg C _ _ _ ((IntRow.drew hX9).below hBa9) (intRow_of_owns hoa9 (by omega))).mono ?_
        rintro e wb9 ⟨rfl, hBb9⟩
        refine hK.out _ _ ?_ (fun hHeld => ?_)
        · exact SmS.next hHeld hBb9
        clear hK K
        (try simp only [List.getElem_toArray, List.getElem_cons_succ, List.getElem_cons_zero, Act.put, List.setIfInBounds_toArray, List.set_cons_zero, List.set_cons_succ])
        refine wpAnyH_take (i := 4) (oi := ?o3) (v := ?v3) ?hi3 ?hs3 ?hf3 ?hr3 ?hQ3 ?hy3 ?hS3 ?rest3
        case hi3 => rfl
        case hs3 => kernel_rfl
        case hf3 => kernel_rfl
        case hr3 => kernel_rfl
        case hQ3 => exact fun _ _ _ h => h
        case hS3 => assumption
        case hy3 =>
          refine Or.inl ⟨by kernel_rfl, ?_⟩
          intro w' hSw
          (try dsimp only at hSw)
          go_simp
          (try rfl)
        (try simp only [List.getElem_toArray, List.getElem_cons_succ, List.getElem_cons_zero, Act.put, List.setIfInBounds_toArray, List.set_cons_zero, List.set_cons_succ])
        refine wpAnyH_done (by kernel_rfl) ?_ _
        refine NoPanic.normal ?_
        go_wp2_with fail
        go_ret
        exact ⟨rfl, bt B05 (bt (below_dr hBa9) hBb9)⟩

set_option maxRecDepth 100000 in
set_option maxHeartbeats 8000000 in
theorem lawExSignFor (hI : ImplSign) (C : Cfg) (u : Value) (f : Int) (f0 : -9223372036854775808 ≤ f) (f1 : f ≤ 9223372036854775807) (w : World) (h : IntRow w u C.s) :
    Calls Try.prog 7 #[.agg #[.int .i64 C.r, .int .i64 C.d, .int .i64 C.b, .int .i64 C.l, .int .i64 C.m, .int .i64 C.n, .int .i64 C.e, u], .int .i64 f] w fun e w' => e = .returned (.bool true) ∧ Below w.heap.size w w' := by
  obtain ⟨a, c, rfl, hl9, _⟩ := intRow_form h
  by_cases hov : 1048576 < C.s.length
  · go_enter Try.func7, Try.ntmps7
    go_wp2_with fail
    refine (szCfg_not C _ 1048576 _ (h.below (below_al w _)) (by omega) hov).mono ?_
    rintro e w1 ⟨rfl, hB1⟩
    go_wp2_with fail
    go_ret
    exact ⟨rfl, bt (below_al w _) hB1⟩
  · have hl : C.s.length ≤ 1048576 := by omega
    obtain ⟨r, hr⟩ : ∃ r : Nat, 1048576 - C.s.length = r := ⟨_, rfl⟩
    have hr0 : ¬ (r : Int) < 0 := by omega
    have hsz := szCfg_fits C (.slice a C.s.length c) 1048576 (w.alloc (.cells #[.int .i64 C.r, .int .i64 C.d, .int .i64 C.b, .int .i64 C.l, .int .i64 C.m, .int .i64 C.n, .int .i64 C.e, .slice a C.s.length c] 33)) (h.below (below_al w _)) (by omega) hl
    rw [hr] at hsz
    have HSZ := Lib.hid hsz
    have h0 := Lib.hid h
    have HI := Lib.hid hI
    clear hsz hr hov h hI
    go_enter Try.func7, Try.ntmps7
    go_wp2_with fail
    refine HSZ.out.mono ?_
    rintro e w1 ⟨rfl, hB1⟩
    have B01 := bt (below_al w _) hB1
    have X1 := Lib.hid (blk_next (alloc_blk w #[.int .i64 C.r, .int .i64 C.d, .int .i64 C.b, .int .i64 C.l, .int .i64 C.m, .int .i64 C.n, .int .i64 C.e, .slice a C.s.length c] 33) hB1)
    clear hB1
    have ca0 := cell_blk X1.out 0
    have ca1 := cell_blk X1.out 1
    have ca2 := cell_blk X1.out 2
    have ca3 := cell_blk X1.out 3
    have ca4 := cell_blk X1.out 4
    have ca5 := cell_blk X1.out 5
    have ca6 := cell_blk X1.out 6
    have ca7 := cell_blk X1.out 7
    have la := blk_lt X1.out
    go_wp2_with fail
    refine (toCfg C _ _ (h0.out.below B01) hl).mono ?_
    rintro e w2 ⟨⟨v2, rfl, ho2⟩, B12⟩
    have R2 := Lib.hid (intRow_of_owns ho2 (by omega))
    have X2 := Lib.hid (blk_next X1.out B12)
    have B02 := Lib.hid (bt B01 B12)
    clear ca0 ca1 ca2 ca3 ca4 ca5 ca6 ca7 la
    clear ho2 B12 B01 X1
    go_wp2_with fail
    refine (specSignFor C v2 f w2 R2.out).mono ?_
    rintro e w3 ⟨rfl, B23⟩
    have X3 := Lib.hid (blk_next X2.out B23)
    have B03 := Lib.hid (bt B02.out B23)
    clear B23 X2 B02 R2
    have ca0 := cell_blk X3.out 0
    have ca1 := cell_blk X3.out 1
    have ca2 := cell_blk X3.out 2
    have ca3 := cell_blk X3.out 3
    have ca4 := cell_blk X3.out 4
    have ca5 := cell_blk X3.out 5
    have ca6 := cell_blk X3.out 6
    have ca7 := cell_blk X3.out 7
    have la := blk_lt X3.out
    go_wp2_with fail
    refine (toCfg C _ _ (h0.out.below B03.out) hl).mono ?_
    rintro e w4 ⟨⟨v4, rfl, ho4⟩, B34⟩
    have R4 := Lib.hid (intRow_of_owns ho4 (by omega))
    have X4 := Lib.hid (blk_next X3.out B34)
    have B04 := Lib.hid (bt B03.out B34)
    clear ca0 ca1 ca2 ca3 ca4 ca5 ca6 ca7 la
    clear ho4 B34 B03 X3
    obtain ⟨a4, c4, rfl, _⟩ := intRow_form R4.out
    go_wp2_with fail
    have hA4 := below_al w4 (.cells #[.int .i64 C.r, .int .i64 C.d, .int .i64 C.b, .int .i64 C.l, .int .i64 C.m, .int .i64 C.n, .int .i64 C.e, .slice a4 C.s.length c4] 26)
    refine (HI.out C _ f _ (R4.out.below hA4) (by omega) f0 f1).mono ?_
    rintro e w5 ⟨rfl, B45⟩
    have hP9 := blk_next (alloc_blk w4 #[.int .i64 C.r, .int .i64 C.d, .int .i64 C.b, .int .i64 C.l, .int .i64 C.m, .int .i64 C.n, .int .i64 C.e, .slice a4 C.s.length c4] 26) B45
    have hA9 := blk_next (blk_alloc X4.out _) B45
    have hX9 := (R4.out.below hA4).below B45
    have B05 := bt (bt B04.out hA4) B45
    have hR9 := h0.out.below B05
    clear X4 B04 R4 hA4 B45
    go_wp2_with fail
    have hS9 : TwS w5 w4.heap.size w.heap.size C C (.slice a4 C.s.length c4) (.slice a C.s.length c) w5.drew := TwS.mk (hP9) (hA9) (Below.refl _ _).drew
    refine wp_region_noPanic ?_
    refine wp_region_held_drew (S := (TwS w5 w4.heap.size w.heap.size C C (.slice a4 C.s.length c4) (.slice a C.s.length c))) (by kernel_rfl) hS9 (fun hHeld => ?_)
    clear hS9
    refine wpAnyH_take (i := 0) (oi := ?o4) (v := ?v4) ?hi4 ?hs4 ?hf4 ?hr4 ?hQ4 ?hy4 ?hS4 ?rest4
    case hi4 => rfl
    case hs4 => kernel_rfl
    case hf4 => kernel_rfl
    case hr4 => kernel_rfl
    case hQ4 => exact fun _ _ _ h => h
    case hS4 => assumption
    case hy4 =>
      refine Or.inl ⟨by kernel_rfl, ?_⟩
      intro w' hSw
      (try dsimp only at hSw)
      go_simp
      (try rfl)
    (try simp only [List.getElem_toArray, List.getElem_cons_zero, Act.put, List.setIfInBounds_toArray, List.set_cons_zero, List.set_cons_succ])
    refine wpAnyH_take (i := 1) (oi := ?o5) (v := ?v5) ?hi5 ?hs5 ?hf5 ?hr5 ?hQ5 ?hy5 ?hS5 ?rest5
    case hi5 => rfl
    case hs5 => kernel_rfl
    case hf5 => kernel_rfl
    case hr5 => kernel_rfl
    case hQ5 => exact fun _ _ _ h => h
    case hS5 => assumption
    case hy5 =>
      refine Or.inl ⟨by kernel_rfl, ?_⟩
      intro w' hSw
      (try dsimp only at hSw)
      go_simp
      (try rfl)
    (try simp only [List.getElem_toArray, List.getElem_cons_succ, List.getElem_cons_zero, Act.put, List.setIfInBounds_toArray, List.set_cons_zero, List.set_cons_succ])
    refine wpAnyH_ready (rs := [2]) (by kernel_rfl) (by simp) ?_
    refine AllReadyH.cons rfl (fun K hK => ?_) AllReadyH.nil
    · go_simp
      refine (toCfg C _ _ (IntRow.drew hR9) (by omega)).mono ?_
      rintro e wa9 ⟨⟨va9, rfl, hoa9⟩, hBa9⟩
      refine hK.out _ _ ?_ (fun hHeld => ?_)
      · exact SmS.next hHeld hBa9
      clear hK K
      (try simp only [List.getElem_toArray, List.getElem_cons_succ, List.getElem_cons_zero, Act.put, List.setIfInBounds_toArray, List.set_cons_zero, List.set_cons_succ])
      refine wpAnyH_ready (rs := [3]) (by kernel_rfl) (by simp) ?_
      refine AllReadyH.cons rfl (fun K hK => ?_) AllReadyH.nil
      · go_simp
        refine (eqCfg C _ _ _ ((IntRow.drew hX9).below hBa9) (intRow_of_owns hoa9 (by omega))).mono ?_
        rintro e wb9 ⟨rfl, hBb9⟩
        refine hK.out _ _ ?_ (fun hHeld => ?_)
        · exact SmS.next hHeld hBb9
        clear hK K
        (try simp only [List.getElem_toArray, List.getElem_cons_succ, List.getElem_cons_zero, Act.put, List.setIfInBounds_toArray, List.set_cons_zero, List.set_cons_succ])
        refine wpAnyH_take (i := 4) (oi := ?o6) (v := ?v6) ?hi6 ?hs6 ?hf6 ?hr6 ?hQ6 ?hy6 ?hS6 ?rest6
        case hi6 => rfl
        case hs6 => kernel_rfl
        case hf6 => kernel_rfl
        case hr6 => kernel_rfl
        case hQ6 => exact fun _ _ _ h => h
        case hS6 => assumption
        case hy6 =>
          refine Or.inl ⟨by kernel_rfl, ?_⟩
          intro w' hSw
          (try dsimp only at hSw)
          go_simp
          (try rfl)
        (try simp only [List.getElem_toArray, List.getElem_cons_succ, List.getElem_cons_zero, Act.put, List.setIfInBounds_toArray, List.set_cons_zero, List.set_cons_succ])
        refine wpAnyH_done (by kernel_rfl) ?_ _
        refine NoPanic.normal ?_
        go_wp2_with fail
        go_ret
        exact ⟨rfl, bt B05 (bt (below_dr hBa9) hBb9)⟩

set_option maxRecDepth 100000 in
set_option maxHeartbeats 16000000 in
theorem lawExSameConfig (hI : ImplSameC) (A B : Cfg) (u v : Value) (w : World) (ha : IntRow w u A.s) (hb : IntRow w v B.s) :
    Calls Try.prog 6 #[.agg #[.int .i64 A.r, .int .i64 A.d, .int .i64 A.b, .int .i64 A.l, .int .i64 A.m, .int .i64 A.n, .int .i64 A.e, u], .agg #[.int .i64 B.r, .int .i64 B.d, .int .i64 B.b, .int .i64 B.l, .int .i64 B.m, .int .i64 B.n, .int .i64 B.e, v]] w fun e w' => e = .returned (.bool true) ∧ Below w.heap.size w w' := by
  obtain ⟨a, ca, rfl, hla9, _⟩ := intRow_form ha
  obtain ⟨b, cb, rfl, hlb9, _⟩ := intRow_form hb
  have hAA := bt (below_al w (.cells #[.int .i64 A.r, .int .i64 A.d, .int .i64 A.b, .int .i64 A.l, .int .i64 A.m, .int .i64 A.n, .int .i64 A.e, .slice a A.s.length ca] 33)) (below_al _ (.cells #[.int .i64 B.r, .int .i64 B.d, .int .i64 B.b, .int .i64 B.l, .int .i64 B.m, .int .i64 B.n, .int .i64 B.e, .slice b B.s.length cb] 33))
  have xa := blk_alloc (alloc_blk w #[.int .i64 A.r, .int .i64 A.d, .int .i64 A.b, .int .i64 A.l, .int .i64 A.m, .int .i64 A.n, .int .i64 A.e, .slice a A.s.length ca] 33) (.cells #[.int .i64 B.r, .int .i64 B.d, .int .i64 B.b, .int .i64 B.l, .int .i64 B.m, .int .i64 B.n, .int .i64 B.e, .slice b B.s.length cb] 33)
  have xb := alloc_blk (w.alloc (.cells #[.int .i64 A.r, .int .i64 A.d, .int .i64 A.b, .int .i64 A.l, .int .i64 A.m, .int .i64 A.n, .int .i64 A.e, .slice a A.s.length ca] 33)) #[.int .i64 B.r, .int .i64 B.d, .int .i64 B.b, .int .i64 B.l, .int .i64 B.m, .int .i64 B.n, .int .i64 B.e, .slice b B.s.length cb] 33
  rw [size_alloc] at xb
  have XA0 := Lib.hid xa
  have XB0 := Lib.hid xb
  have BA0 := Lib.hid hAA
  clear xa xb hAA
  by_cases hov : 1048576 < A.s.length
  · go_enter Try.func6, Try.ntmps6
    go_wp2_with fail
    refine (szCfg_not A _ 1048576 _ (ha.below BA0.out) (by omega) hov).mono ?_
    rintro e w1 ⟨rfl, hB1⟩
    go_wp2_with fail
    go_ret
    exact ⟨rfl, bt BA0.out hB1⟩
  · obtain ⟨r, hr⟩ : ∃ r : Nat, 1048576 - A.s.length = r := ⟨_, rfl⟩
    have hr0 : ¬ (r : Int) < 0 := by omega
    have hr9 : r ≤ 1048576 := by omega
    have hla : A.s.length ≤ 1048576 := by omega
    have hsz := szCfg_fits A (.slice a A.s.length ca) 1048576 _ (ha.below BA0.out) (by omega) hla
    rw [hr] at hsz
    have HSZ := Lib.hid hsz
    clear hsz
    by_cases hov2 : r < B.s.length
    · go_enter Try.func6, Try.ntmps6
      go_wp2_with fail
      refine HSZ.out.mono ?_
      rintro e w1 ⟨rfl, hB1⟩
      have XB1 := Lib.hid (blk_next XB0.out hB1)
      have BA1 := Lib.hid (bt BA0.out hB1)
      clear hB1
      have cb0 := cell_blk XB1.out 0
      have cb1 := cell_blk XB1.out 1
      have cb2 := cell_blk XB1.out 2
      have cb3 := cell_blk XB1.out 3
      have cb4 := cell_blk XB1.out 4
      have cb5 := cell_blk XB1.out 5
      have cb6 := cell_blk XB1.out 6
      have cb7 := cell_blk XB1.out 7
      have lb := blk_lt XB1.out
      go_wp2_with fail
      refine (szCfg_not B _ r _ (hb.below BA1.out) hr9 hov2).mono ?_
      rintro e w2 ⟨rfl, hB2⟩
      go_wp2_with fail
      go_ret
      exact ⟨rfl, bt BA1.out hB2⟩
    · have hlb : B.s.length ≤ 1048576 := by omega
      obtain ⟨r2, hr2⟩ : ∃ r2 : Nat, r - B.s.length = r2 := ⟨_, rfl⟩
      have hr20 : ¬ (r2 : Int) < 0 := by omega
      have hsz2 : ∀ W, IntRow W (.slice b B.s.length cb) B.s → Calls Try.prog 17 #[.agg #[.int .i64 B.r, .int .i64 B.d, .int .i64 B.b, .int .i64 B.l, .int .i64 B.m, .int .i64 B.n, .int .i64 B.e, .slice b B.s.length cb], .int .i64 r] W fun e w' => e = .returned (.int .i64 r2) ∧ Below W.heap.size W w' := fun W hW => by rw [← hr2]; exact szCfg_fits B _ r W hW hr9 (by omega)
      have HSZ2 := Lib.hid hsz2
      have h0a := Lib.hid ha
      have h0b := Lib.hid hb
      have HI := Lib.hid hI
      obtain ⟨sb, hsb⟩ : ∃ sb, sameC A B = sb := ⟨_, rfl⟩
      have HSB := Lib.hid hsb
      have hbb : (sb != sb) = false := by cases sb <;> rfl
      clear hsz2 hsb hI ha hb hov hov2 hr hr2
      go_enter Try.func6, Try.ntmps6
      go_wp2_with fail
      refine HSZ.out.mono ?_
      rintro e w1 ⟨rfl, hB1⟩
      have XA1 := Lib.hid (blk_next XA0.out hB1)
      have XB1 := Lib.hid (blk_next XB0.out hB1)
      have BA1 := Lib.hid (bt BA0.out hB1)
      clear hB1
      have cb0 := cell_blk XB1.out 0
      have cb1 := cell_blk XB1.out 1
      have cb2 := cell_blk XB1.out 2
      have cb3 := cell_blk XB1.out 3
      have cb4 := cell_blk XB1.out 4
      have cb5 := cell_blk XB1.out 5
      have cb6 := cell_blk XB1.out 6
      have cb7 := cell_blk XB1.out 7
      have lb := blk_lt XB1.out
      go_wp2_with fail
      refine (HSZ2.out _ (h0b.out.below BA1.out)).mono ?_
      rintro e wS ⟨rfl, hB2⟩
      have XA := Lib.hid (blk_next XA1.out hB2)
      have XB := Lib.hid (blk_next XB1.out hB2)
      have BS := Lib.hid (bt BA1.out hB2)
      clear cb0 cb1 cb2 cb3 cb4 cb5 cb6 cb7 lb
      clear hB2 XA1 XB1 BA1
      go_wp2_with fail
      have hS1 : TwS wS w.heap.size (w.heap.size + 1) A B (.slice a A.s.length ca) (.slice b B.s.length cb) wS.drew := TwS.mk XA.out XB.out (Below.refl _ _).drew
      refine wp_region_noPanic ?_
      refine wp_region_held_drew (S := (TwS wS w.heap.size (w.heap.size + 1) A B (.slice a A.s.length ca) (.slice b B.s.length cb))) (by kernel_rfl) hS1 (fun hHeld => ?_)
      clear hS1
      refine wpAnyH_take (i := 0) (oi := ?o13) (v := ?v13) ?hi13 ?hs13 ?hf13 ?hr13 ?hQ13 ?hy13 ?hS13 ?rest13
      case hi13 => rfl
      case hs13 => kernel_rfl
      case hf13 => kernel_rfl
      case hr13 => kernel_rfl
      case hQ13 => exact fun _ _ _ h => h
      case hS13 => assumption
      case hy13 =>
        refine Or.inl ⟨by kernel_rfl, ?_⟩
        intro w' hSw
        (try dsimp only at hSw)
        go_simp
        (try rfl)
      (try simp only [List.getElem_toArray, List.getElem_cons_zero, Act.put, List.setIfInBounds_toArray, List.set_cons_zero, List.set_cons_succ])
      refine wpAnyH_take (i := 2) (oi := ?o14) (v := ?v14) ?hi14 ?hs14 ?hf14 ?hr14 ?hQ14 ?hy14 ?hS14 ?rest14
      case hi14 => rfl
      case hs14 => kernel_rfl
      case hf14 => kernel_rfl
      case hr14 => kernel_rfl
      case hQ14 => exact fun _ _ _ h => h
      case hS14 => assumption
      case hy14 =>
        refine Or.inl ⟨by kernel_rfl, ?_⟩
        intro w' hSw
        (try dsimp only at hSw)
        go_simp
        (try rfl)
      (try simp only [List.getElem_toArray, List.getElem_cons_succ, List.getElem_cons_zero, Act.put, List.setIfInBounds_toArray, List.set_cons_zero, List.set_cons_succ])
      refine wpAnyH_ready (rs := [1]) (by kernel_rfl) (by simp) ?_
      refine AllReadyH.cons rfl (fun K hK => ?_) AllReadyH.nil
      · go_simp
        refine (toCfg A _ _ (IntRow.drew (h0a.out.below BS.out)) hla).mono ?_
        rintro e wa1 ⟨⟨va1, rfl, hoa1⟩, hBa1⟩
        refine hK.out _ _ ?_ (fun hHeld => ?_)
        · exact SmS.next hHeld hBa1
        clear hK K
        (try simp only [List.getElem_toArray, List.getElem_cons_succ, List.getElem_cons_zero, Act.put, List.setIfInBounds_toArray, List.set_cons_zero, List.set_cons_succ])
        refine wpAnyH_ready (rs := [3]) (by kernel_rfl) (by simp) ?_
        refine AllReadyH.cons rfl (fun K hK => ?_) AllReadyH.nil
        · go_simp
          refine (toCfg B _ _ ((IntRow.drew (h0b.out.below BS.out)).below hBa1) hlb).mono ?_
          rintro e wb1 ⟨⟨vb1, rfl, hob1⟩, hBb1⟩
          refine hK.out _ _ ?_ (fun hHeld => ?_)
          · exact SmS.next hHeld hBb1
          clear hK K
          (try simp only [List.getElem_toArray, List.getElem_cons_succ, List.getElem_cons_zero, Act.put, List.setIfInBounds_toArray, List.set_cons_zero, List.set_cons_succ])
          refine wpAnyH_ready (rs := [4]) (by kernel_rfl) (by simp) ?_
          refine AllReadyH.cons rfl (fun K hK => ?_) AllReadyH.nil
          · go_simp
            refine (specSameConfig A B _ _ _ ((intRow_of_owns hoa1 (by omega)).below hBb1) (intRow_of_owns hob1 (by omega))).mono ?_
            rintro e w3 ⟨rfl, hBc1⟩
            rw [HSB.out]
            refine hK.out _ _ ?_ (fun hHeld => ?_)
            · exact SmS.next hHeld hBc1
            clear hK K
            (try simp only [List.getElem_toArray, List.getElem_cons_succ, List.getElem_cons_zero, Act.put, List.setIfInBounds_toArray, List.set_cons_zero, List.set_cons_succ])
            refine wpAnyH_take (i := 5) (oi := ?o15) (v := ?v15) ?hi15 ?hs15 ?hf15 ?hr15 ?hQ15 ?hy15 ?hS15 ?rest15
            case hi15 => rfl
            case hs15 => kernel_rfl
            case hf15 => kernel_rfl
            case hr15 => kernel_rfl
            case hQ15 => exact fun _ _ _ h => h
            case hS15 => assumption
            case hy15 =>
              refine Or.inl ⟨by kernel_rfl, ?_⟩
              intro w' hSw
              (try dsimp only at hSw)
              go_simp
              (try rfl)
            (try simp only [List.getElem_toArray, List.getElem_cons_succ, List.getElem_cons_zero, Act.put, List.setIfInBounds_toArray, List.set_cons_zero, List.set_cons_succ])
            refine wpAnyH_done (by kernel_rfl) ?_ _
            refine NoPanic.normal ?_
            have BT3 := Lib.hid (bt (below_dr hBa1) (bt hBb1 hBc1))
            have XA3 := Lib.hid (blk_next XA.out BT3.out)
            have XB3 := Lib.hid (blk_next XB.out BT3.out)
            have B03 := Lib.hid (bt BS.out BT3.out)
            clear hBa1 hBb1 hBc1 hoa1 hob1 hHeld BT3 XA XB BS
            have ca0 := cell_blk XA3.out 0
            have ca1 := cell_blk XA3.out 1
            have ca2 := cell_blk XA3.out 2
            have ca3 := cell_blk XA3.out 3
            have ca4 := cell_blk XA3.out 4
            have ca5 := cell_blk XA3.out 5
            have ca6 := cell_blk XA3.out 6
            have ca7 := cell_blk XA3.out 7
            have la := blk_lt XA3.out
            go_wp2_with fail
            refine (toCfg A _ _ (h0a.out.below B03.out) hla).mono ?_
            rintro e w4 ⟨⟨v4, rfl, ho4⟩, B34⟩
            have R4 := Lib.hid (intRow_of_owns ho4 (by omega))
            obtain ⟨a4, c4, rfl, _⟩ := intRow_form R4.out
            have XA4 := Lib.hid (blk_next XA3.out B34)
            have XB4 := Lib.hid (blk_next XB3.out B34)
            have B04 := Lib.hid (bt B03.out B34)
            clear ca0 ca1 ca2 ca3 ca4 ca5 ca6 ca7 la
            clear ho4 B34 XA3 XB3 B03
            have XB4b := Lib.hid (blk_alloc XB4.out (.cells #[.int .i64 A.r, .int .i64 A.d, .int .i64 A.b, .int .i64 A.l, .int .i64 A.m, .int .i64 A.n, .int .i64 A.e, .slice a4 A.s.length c4] 26))
            have cb0 := cell_blk XB4b.out 0
            have cb1 := cell_blk XB4b.out 1
            have cb2 := cell_blk XB4b.out 2
            have cb3 := cell_blk XB4b.out 3
            have cb4 := cell_blk XB4b.out 4
            have cb5 := cell_blk XB4b.out 5
            have cb6 := cell_blk XB4b.out 6
            have cb7 := cell_blk XB4b.out 7
            have lb := blk_lt XB4b.out
            go_wp2_with fail
            have hA4 := below_al w4 (.cells #[.int .i64 A.r, .int .i64 A.d, .int .i64 A.b, .int .i64 A.l, .int .i64 A.m, .int .i64 A.n, .int .i64 A.e, .slice a4 A.s.length c4] 26)
            refine (toCfg B _ _ ((h0b.out.below B04.out).below hA4) hlb).mono ?_
            rintro e w5 ⟨⟨v5, rfl, ho5⟩, B45⟩
            have R5 := Lib.hid (intRow_of_owns ho5 (by omega))
            obtain ⟨a5, c5, rfl, _⟩ := intRow_form R5.out
            have P5 := Lib.hid (blk_next (alloc_blk w4 #[.int .i64 A.r, .int .i64 A.d, .int .i64 A.b, .int .i64 A.l, .int .i64 A.m, .int .i64 A.n, .int .i64 A.e, .slice a4 A.s.length c4] 26) B45)
            have BT5 := Lib.hid (bt hA4 B45)
            have XA5 := Lib.hid (blk_next XA4.out BT5.out)
            have XB5 := Lib.hid (blk_next XB4.out BT5.out)
            have S4 := Lib.hid (R4.out.below BT5.out)
            have B05 := Lib.hid (bt B04.out BT5.out)
            clear cb0 cb1 cb2 cb3 cb4 cb5 cb6 cb7 lb
            clear ho5 B45 hA4 XA4 XB4 XB4b B04 R4 BT5
            have P5b := Lib.hid (blk_alloc P5.out (.cells #[.int .i64 B.r, .int .i64 B.d, .int .i64 B.b, .int .i64 B.l, .int .i64 B.m, .int .i64 B.n, .int .i64 B.e, .slice a5 B.s.length c5] 26))
            have cp0 := cell_blk P5b.out 0
            have cp1 := cell_blk P5b.out 1
            have cp2 := cell_blk P5b.out 2
            have cp3 := cell_blk P5b.out 3
            have cp4 := cell_blk P5b.out 4
            have cp5 := cell_blk P5b.out 5
            have cp6 := cell_blk P5b.out 6
            have cp7 := cell_blk P5b.out 7
            have lp := blk_lt P5b.out
            go_wp2_with fail
            have hA5 := below_al w5 (.cells #[.int .i64 B.r, .int .i64 B.d, .int .i64 B.b, .int .i64 B.l, .int .i64 B.m, .int .i64 B.n, .int .i64 B.e, .slice a5 B.s.length c5] 26)
            refine (HI.out A B _ _ _ (S4.out.below hA5) (R5.out.below hA5) (by omega) (by omega)).mono ?_
            rintro e w6 ⟨rfl, B56⟩
            rw [HSB.out]
            have Q6 := Lib.hid (blk_next (alloc_blk w5 #[.int .i64 B.r, .int .i64 B.d, .int .i64 B.b, .int .i64 B.l, .int .i64 B.m, .int .i64 B.n, .int .i64 B.e, .slice a5 B.s.length c5] 26) B56)
            have BT6 := Lib.hid (bt hA5 B56)
            have hP8 := blk_next P5.out BT6.out
            have hA8 := blk_next XA5.out BT6.out
            have XB6 := Lib.hid (blk_next XB5.out BT6.out)
            have hX8 := S4.out.below BT6.out
            have S5 := Lib.hid (R5.out.below BT6.out)
            have B06 := Lib.hid (bt B05.out BT6.out)
            have hR8 := h0a.out.below B06.out
            clear cp0 cp1 cp2 cp3 cp4 cp5 cp6 cp7 lp
            clear B56 hA5 P5 P5b XA5 XB5 S4 R5 B05 BT6
            go_wp2_with fail
            have hS8 : TwS w6 w4.heap.size w.heap.size A A (.slice a4 A.s.length c4) (.slice a A.s.length ca) w6.drew := TwS.mk (hP8) (hA8) (Below.refl _ _).drew
            refine wp_region_noPanic ?_
            refine wp_region_held_drew (S := (TwS w6 w4.heap.size w.heap.size A A (.slice a4 A.s.length c4) (.slice a A.s.length ca))) (by kernel_rfl) hS8 (fun hHeld => ?_)
            clear hS8
            refine wpAnyH_take (i := 0) (oi := ?o7) (v := ?v7) ?hi7 ?hs7 ?hf7 ?hr7 ?hQ7 ?hy7 ?hS7 ?rest7
            case hi7 => rfl
            case hs7 => kernel_rfl
            case hf7 => kernel_rfl
            case hr7 => kernel_rfl
            case hQ7 => exact fun _ _ _ h => h
            case hS7 => assumption
            case hy7 =>
              refine Or.inl ⟨by kernel_rfl, ?_⟩
              intro w' hSw
              (try dsimp only at hSw)
              go_simp
              (try rfl)
            (try simp only [List.getElem_toArray, List.getElem_cons_zero, Act.put, List.setIfInBounds_toArray, List.set_cons_zero, List.set_cons_succ])
            refine wpAnyH_take (i := 1) (oi := ?o8) (v := ?v8) ?hi8 ?hs8 ?hf8 ?hr8 ?hQ8 ?hy8 ?hS8 ?rest8
            case hi8 => rfl
            case hs8 => kernel_rfl
            case hf8 => kernel_rfl
            case hr8 => kernel_rfl
            case hQ8 => exact fun _ _ _ h => h
            case hS8 => assumption
            case hy8 =>
              refine Or.inl ⟨by kernel_rfl, ?_⟩
              intro w' hSw
              (try dsimp only at hSw)
              go_simp
              (try rfl)
            (try simp only [List.getElem_toArray, List.getElem_cons_succ, List.getElem_cons_zero, Act.put, List.setIfInBounds_toArray, List.set_cons_zero, List.set_cons_succ])
            refine wpAnyH_ready (rs := [2]) (by kernel_rfl) (by simp) ?_
            refine AllReadyH.cons rfl (fun K hK => ?_) AllReadyH.nil
            · go_simp
              refine (toCfg A _ _ (IntRow.drew hR8) (by omega)).mono ?_
              rintro e wa8 ⟨⟨va8, rfl, hoa8⟩, hBa8⟩
              refine hK.out _ _ ?_ (fun hHeld => ?_)
              · exact SmS.next hHeld hBa8
              clear hK K
              (try simp only [List.getElem_toArray, List.getElem_cons_succ, List.getElem_cons_zero, Act.put, List.setIfInBounds_toArray, List.set_cons_zero, List.set_cons_succ])
              refine wpAnyH_ready (rs := [3]) (by kernel_rfl) (by simp) ?_
              refine AllReadyH.cons rfl (fun K hK => ?_) AllReadyH.nil
              · go_simp
                refine (eqCfg A _ _ _ ((IntRow.drew hX8).below hBa8) (intRow_of_owns hoa8 (by omega))).mono ?_
                rintro e wb8 ⟨rfl, hBb8⟩
                refine hK.out _ _ ?_ (fun hHeld => ?_)
                · exact SmS.next hHeld hBb8
                clear hK K
                (try simp only [List.getElem_toArray, List.getElem_cons_succ, List.getElem_cons_zero, Act.put, List.setIfInBounds_toArray, List.set_cons_zero, List.set_cons_succ])
                refine wpAnyH_take (i := 4) (oi := ?o9) (v := ?v9) ?hi9 ?hs9 ?hf9 ?hr9 ?hQ9 ?hy9 ?hS9 ?rest9
                case hi9 => rfl
                case hs9 => kernel_rfl
                case hf9 => kernel_rfl
                case hr9 => kernel_rfl
                case hQ9 => exact fun _ _ _ h => h
                case hS9 => assumption
                case hy9 =>
                  refine Or.inl ⟨by kernel_rfl, ?_⟩
                  intro w' hSw
                  (try dsimp only at hSw)
                  go_simp
                  (try rfl)
                (try simp only [List.getElem_toArray, List.getElem_cons_succ, List.getElem_cons_zero, Act.put, List.setIfInBounds_toArray, List.set_cons_zero, List.set_cons_succ])
                refine wpAnyH_done (by kernel_rfl) ?_ _
                refine NoPanic.normal ?_
                have BT7 := Lib.hid (bt (below_dr hBa8) hBb8)
                have hP7 := blk_next Q6.out BT7.out
                have hA7 := blk_next XB6.out BT7.out
                have hX7 := S5.out.below BT7.out
                have B07 := Lib.hid (bt B06.out BT7.out)
                have hR7 := h0b.out.below B07.out
                clear hBa8 hBb8 hoa8 hHeld BT7 Q6 XB6 S5 B06 hP8 hA8 hX8 hR8
                go_wp2_with fail
                have hS7 : TwS wb8 w5.heap.size (w.heap.size + 1) B B (.slice a5 B.s.length c5) (.slice b B.s.length cb) wb8.drew := TwS.mk (hP7) (hA7) (Below.refl _ _).drew
                refine wp_region_noPanic ?_
                refine wp_region_held_drew (S := (TwS wb8 w5.heap.size (w.heap.size + 1) B B (.slice a5 B.s.length c5) (.slice b B.s.length cb))) (by kernel_rfl) hS7 (fun hHeld => ?_)
                clear hS7
                refine wpAnyH_take (i := 0) (oi := ?o10) (v := ?v10) ?hi10 ?hs10 ?hf10 ?hr10 ?hQ10 ?hy10 ?hS10 ?rest10
                case hi10 => rfl
                case hs10 => kernel_rfl
                case hf10 => kernel_rfl
                case hr10 => kernel_rfl
                case hQ10 => exact fun _ _ _ h => h
                case hS10 => assumption
                case hy10 =>
                  refine Or.inl ⟨by kernel_rfl, ?_⟩
                  intro w' hSw
                  (try dsimp only at hSw)
                  go_simp
                  (try rfl)
                (try simp only [List.getElem_toArray, List.getElem_cons_zero, Act.put, List.setIfInBounds_toArray, List.set_cons_zero, List.set_cons_succ])
                refine wpAnyH_take (i := 1) (oi := ?o11) (v := ?v11) ?hi11 ?hs11 ?hf11 ?hr11 ?hQ11 ?hy11 ?hS11 ?rest11
                case hi11 => rfl
                case hs11 => kernel_rfl
                case hf11 => kernel_rfl
                case hr11 => kernel_rfl
                case hQ11 => exact fun _ _ _ h => h
                case hS11 => assumption
                case hy11 =>
                  refine Or.inl ⟨by kernel_rfl, ?_⟩
                  intro w' hSw
                  (try dsimp only at hSw)
                  go_simp
                  (try rfl)
                (try simp only [List.getElem_toArray, List.getElem_cons_succ, List.getElem_cons_zero, Act.put, List.setIfInBounds_toArray, List.set_cons_zero, List.set_cons_succ])
                refine wpAnyH_ready (rs := [2]) (by kernel_rfl) (by simp) ?_
                refine AllReadyH.cons rfl (fun K hK => ?_) AllReadyH.nil
                · go_simp
                  refine (toCfg B _ _ (IntRow.drew hR7) (by omega)).mono ?_
                  rintro e wa7 ⟨⟨va7, rfl, hoa7⟩, hBa7⟩
                  refine hK.out _ _ ?_ (fun hHeld => ?_)
                  · exact SmS.next hHeld hBa7
                  clear hK K
                  (try simp only [List.getElem_toArray, List.getElem_cons_succ, List.getElem_cons_zero, Act.put, List.setIfInBounds_toArray, List.set_cons_zero, List.set_cons_succ])
                  refine wpAnyH_ready (rs := [3]) (by kernel_rfl) (by simp) ?_
                  refine AllReadyH.cons rfl (fun K hK => ?_) AllReadyH.nil
                  · go_simp
                    refine (eqCfg B _ _ _ ((IntRow.drew hX7).below hBa7) (intRow_of_owns hoa7 (by omega))).mono ?_
                    rintro e wb7 ⟨rfl, hBb7⟩
                    refine hK.out _ _ ?_ (fun hHeld => ?_)
                    · exact SmS.next hHeld hBb7
                    clear hK K
                    (try simp only [List.getElem_toArray, List.getElem_cons_succ, List.getElem_cons_zero, Act.put, List.setIfInBounds_toArray, List.set_cons_zero, List.set_cons_succ])
                    refine wpAnyH_take (i := 4) (oi := ?o12) (v := ?v12) ?hi12 ?hs12 ?hf12 ?hr12 ?hQ12 ?hy12 ?hS12 ?rest12
                    case hi12 => rfl
                    case hs12 => kernel_rfl
                    case hf12 => kernel_rfl
                    case hr12 => kernel_rfl
                    case hQ12 => exact fun _ _ _ h => h
                    case hS12 => assumption
                    case hy12 =>
                      refine Or.inl ⟨by kernel_rfl, ?_⟩
                      intro w' hSw
                      (try dsimp only at hSw)
                      go_simp
                      (try rfl)
                    (try simp only [List.getElem_toArray, List.getElem_cons_succ, List.getElem_cons_zero, Act.put, List.setIfInBounds_toArray, List.set_cons_zero, List.set_cons_succ])
                    refine wpAnyH_done (by kernel_rfl) ?_ _
                    refine NoPanic.normal ?_
                    go_wp2_with fail
                    go_ret
                    exact ⟨rfl, bt B07.out (bt (below_dr hBa7) hBb7)⟩

set_option maxRecDepth 100000 in
set_option maxHeartbeats 8000000 in
theorem lawExUsualConfig (hI : ImplUsual) (w : World) :
    Calls Try.prog 4 #[] w fun e w' => e = .returned (.bool true) ∧ Below w.heap.size w w' := by
  have HI := Lib.hid hI
  clear hI
  go_enter Try.func4, Try.ntmps4
  go_wp2_with fail
  refine (specUsual w).mono ?_
  rintro e w1 ⟨rfl, B01⟩
  go_wp2_with fail
  have hA1 := below_al w1 (.cells #[.int .i64 4, .int .i64 2, .int .i64 4, .int .i64 1, .int .i64 1, .int .i64 1, .int .i64 1, .slice none 0 0] 26)
  refine (HI.out _).mono ?_
  rintro e w2 ⟨⟨v2, rfl, ho2⟩, B12⟩
  obtain ⟨a2, c2, rfl⟩ := ownsI_form ho2
  have X1 := Lib.hid (blk_next (alloc_blk w1 #[.int .i64 4, .int .i64 2, .int .i64 4, .int .i64 1, .int .i64 1, .int .i64 1, .int .i64 1, .slice none 0 0] 26) B12)
  have B02 := Lib.hid (bt B01 (bt hA1 B12))
  have O2 := Lib.hid ho2
  have hne2 : Hid (some w2.heap.size ≠ (Value.slice a2 0 c2).ownBlock) := Lib.hid (fun e => by have := (ho2.lt _ e.symm).2; omega)
  have hlb0 := B01.size
  have hle : (w1.alloc (.cells #[.int .i64 4, .int .i64 2, .int .i64 4, .int .i64 1, .int .i64 1, .int .i64 1, .int .i64 1, .slice none 0 0] 26)).heap.size ≤ w2.heap.size := B12.size
  obtain ⟨base, hbase⟩ : ∃ base, (w1.alloc (.cells #[.int .i64 4, .int .i64 2, .int .i64 4, .int .i64 1, .int .i64 1, .int .i64 1, .int .i64 1, .slice none 0 0] 26)).heap.size = base := ⟨_, rfl⟩
  have hl1 : w1.heap.size < base := by rw [← hbase]; simp
  have hlb : w.heap.size ≤ base := by omega
  rw [hbase] at O2 hle
  clear hA1 B12 B01 ho2 hbase
  have X1b := Lib.hid (blk_alloc X1.out (.cells #[.int .i64 4, .int .i64 2, .int .i64 4, .int .i64 1, .int .i64 1, .int .i64 1, .int .i64 1, .slice a2 0 c2] 26))
  have ca0 := cell_blk X1b.out 0
  have ca1 := cell_blk X1b.out 1
  have ca2 := cell_blk X1b.out 2
  have ca3 := cell_blk X1b.out 3
  have ca4 := cell_blk X1b.out 4
  have ca5 := cell_blk X1b.out 5
  have ca6 := cell_blk X1b.out 6
  have ca7 := cell_blk X1b.out 7
  have la := blk_lt X1b.out
  go_wp2_with fail
  have hA2 := below_al w2 (.cells #[.int .i64 4, .int .i64 2, .int .i64 4, .int .i64 1, .int .i64 1, .int .i64 1, .int .i64 1, .slice a2 0 c2] 26)
  refine (eqCfg usualC _ _ _ (Or.inl ⟨rfl, _, _, rfl⟩) (Or.inl ⟨rfl, _, _, rfl⟩)).mono ?_
  rintro e w3 ⟨rfl, B23⟩
  have X3 := Lib.hid (blk_next X1b.out B23)
  have Y3 := Lib.hid (blk_next (alloc_blk w2 #[.int .i64 4, .int .i64 2, .int .i64 4, .int .i64 1, .int .i64 1, .int .i64 1, .int .i64 1, .slice a2 0 c2] 26) B23)
  have O3 := Lib.hid (ownsI_below (ownsI_below O2.out hA2) B23)
  have B03 := Lib.hid (bt B02.out (bt hA2 B23))
  have hle3 : base ≤ w3.heap.size := Nat.le_trans hle (Nat.le_trans hA2.size B23.size)
  clear ca0 ca1 ca2 ca3 ca4 ca5 ca6 ca7 la
  clear B23 hA2 X1 X1b O2 B02
  have ca0 := cell_blk Y3.out 0
  have ca1 := cell_blk Y3.out 1
  have ca2 := cell_blk Y3.out 2
  have ca3 := cell_blk Y3.out 3
  have ca4 := cell_blk Y3.out 4
  have ca5 := cell_blk Y3.out 5
  have ca6 := cell_blk Y3.out 6
  have ca7 := cell_blk Y3.out 7
  have la := blk_lt Y3.out
  go_wp2_with fail
  refine (markCfg usualC _ base 0 1 [] w3 O3.out (by omega) (by omega)).mono ?_
  rintro e w4 ⟨rfl, ho4, G34⟩
  have B34 : Below base w3 w4 := (Below.refl base w3).grown G34 hle3 (fun g hg => (O3.out.lt g hg).1)
  have X4 := Lib.hid ((B34.block w1.heap.size hl1).trans X3.out)
  have Y4 := Lib.hid ((G34.block w2.heap.size (blk_lt Y3.out) hne2.out).trans Y3.out)
  have M4 := Lib.hid (intRow_of_owns (zs := marksI 1 0) ho4 (by simp [marksI]))
  have B04 := Lib.hid (B03.out.trans (B34.mono hlb))
  clear ca0 ca1 ca2 ca3 ca4 ca5 ca6 ca7 la
  have ca0 := cell_blk Y4.out 0
  have ca1 := cell_blk Y4.out 1
  have ca2 := cell_blk Y4.out 2
  have ca3 := cell_blk Y4.out 3
  have ca4 := cell_blk Y4.out 4
  have ca5 := cell_blk Y4.out 5
  have ca6 := cell_blk Y4.out 6
  have ca7 := cell_blk Y4.out 7
  have la := blk_lt Y4.out
  clear ho4 G34 B34 X3 Y3 O3 B03
  go_wp2_with fail
  refine (heldCfg usualC _ 0 1 w4 M4.out (by omega) (by omega)).mono ?_
  rintro e w5 ⟨rfl, B45⟩
  have X5 := Lib.hid (blk_next X4.out B45)
  have Y5 := Lib.hid (blk_next Y4.out B45)
  have M5 := Lib.hid (M4.out.below B45)
  have B05 := Lib.hid (bt B04.out B45)
  clear ca0 ca1 ca2 ca3 ca4 ca5 ca6 ca7 la
  clear B45 X4 Y4 M4 B04
  go_wp2_with fail
  refine (HI.out _).mono ?_
  rintro e w6 ⟨⟨v6, rfl, ho6⟩, B56⟩
  obtain ⟨a6, c6, rfl⟩ := ownsI_form ho6
  have X6 := Lib.hid (blk_next X5.out B56)
  have Y6 := Lib.hid (blk_next Y5.out B56)
  have M6 := Lib.hid (M5.out.below B56)
  have B06 := Lib.hid (bt B05.out B56)
  have X6b := Lib.hid (blk_alloc X6.out (.cells #[.int .i64 4, .int .i64 2, .int .i64 4, .int .i64 1, .int .i64 1, .int .i64 1, .int .i64 1, .slice a6 0 c6] 26))
  clear ho6 B56 X5 Y5 M5 B05
  have ca0 := cell_blk X6b.out 0
  have ca1 := cell_blk X6b.out 1
  have ca2 := cell_blk X6b.out 2
  have ca3 := cell_blk X6b.out 3
  have ca4 := cell_blk X6b.out 4
  have ca5 := cell_blk X6b.out 5
  have ca6 := cell_blk X6b.out 6
  have ca7 := cell_blk X6b.out 7
  have la := blk_lt X6b.out
  go_wp2_with fail
  have hA6 := below_al w6 (.cells #[.int .i64 4, .int .i64 2, .int .i64 4, .int .i64 1, .int .i64 1, .int .i64 1, .int .i64 1, .slice a6 0 c6] 26)
  refine (eqCfg usualC _ _ _ (Or.inl ⟨rfl, _, _, rfl⟩) (Or.inl ⟨rfl, _, _, rfl⟩)).mono ?_
  rintro e w7 ⟨rfl, B67⟩
  have BT7 := Lib.hid (bt hA6 B67)
  have Y7 := Lib.hid (blk_next Y6.out BT7.out)
  have M7 := Lib.hid (M6.out.below BT7.out)
  have B07 := Lib.hid (bt B06.out BT7.out)
  clear ca0 ca1 ca2 ca3 ca4 ca5 ca6 ca7 la
  clear B67 hA6 X6 X6b Y6 M6 B06 BT7
  have ca0 := cell_blk Y7.out 0
  have ca1 := cell_blk Y7.out 1
  have ca2 := cell_blk Y7.out 2
  have ca3 := cell_blk Y7.out 3
  have ca4 := cell_blk Y7.out 4
  have ca5 := cell_blk Y7.out 5
  have ca6 := cell_blk Y7.out 6
  have ca7 := cell_blk Y7.out 7
  have la := blk_lt Y7.out
  go_wp2_with fail
  refine (heldCfg usualC _ 0 1 w7 M7.out (by omega) (by omega)).mono ?_
  rintro e w8 ⟨rfl, B78⟩
  go_wp2_with fail
  go_ret
  exact ⟨rfl, bt B07.out B78⟩

end Go.Proofs.Ytnnbhgnllbjmeaa
