/-
  The walk of the exact law on the text of settings; the program's contract is a hypothesis.
-/
import Derived.Test.YtnnbhgnllbjmeaaDoorLawB8
import Derived.Test.YtnnbhgnllbjmeaaDoorCfgX
namespace Go.Proofs.YtnnbhgnllbjmeaaDoor
open Go.RowKit

/-- What the program is to answer, in every world behind w. -/
def ImplText8 (w : World) : Prop := ∀ (wz : World), Below w.heap.size w wz → ∀ (C : Cfg) (u : Value), IntRow wz u C.s → C.s.length ≤ 16777216 → Calls Tryd.prog 8 #[.agg #[.int .i64 C.r, .int .i64 C.d, .int .i64 C.b, .int .i64 C.l, .int .i64 C.m, .int .i64 C.n, .int .i64 C.e, u]] wz fun e w' => e = .returned (.string ⟨(textC C).toArray⟩) ∧ Below wz.heap.size wz w'

set_option maxRecDepth 100000 in
set_option maxHeartbeats 8000000 in
theorem lawExConfigText (C : Cfg) (u : Value) (w : World) (hI : ImplText8 w) (h : IntRow w u C.s) :
    Calls Tryd.prog 3 #[.agg #[.int .i64 C.r, .int .i64 C.d, .int .i64 C.b, .int .i64 C.l, .int .i64 C.m, .int .i64 C.n, .int .i64 C.e, u]] w fun e w' => e = .returned (.bool true) ∧ Below w.heap.size w w' := by
  obtain ⟨a, c, rfl, hl9, _⟩ := intRow_form h
  by_cases hov : 1048576 < C.s.length
  · go_enter Tryd.func3, Tryd.ntmps3
    go_wp2_with fail
    refine (szCfg_not C _ 1048576 _ (h.below (below_al w _)) (by omega) hov).mono ?_
    rintro e w1 ⟨rfl, hB1⟩
    go_wp2_with fail
    go_ret
    exact ⟨rfl, bt (below_al w _) hB1⟩
  · have hl : C.s.length ≤ 1048576 := by omega
    obtain ⟨r, hr⟩ : ∃ r : Nat, 1048576 - C.s.length = r := ⟨_, rfl⟩
    have hr0 : ¬ (r : Int) < 0 := by omega
    have hsz := szCfg_fits C (.slice a C.s.length c) 1048576 (w.alloc (.cells #[.int .i64 C.r, .int .i64 C.d, .int .i64 C.b, .int .i64 C.l, .int .i64 C.m, .int .i64 C.n, .int .i64 C.e, .slice a C.s.length c] 24)) (h.below (below_al w _)) (by omega) hl
    rw [hr] at hsz
    have HSZ := Lib.hid hsz
    have h0 := Lib.hid h
    have HI := Lib.hid hI
    clear hsz hr hov h hI
    go_enter Tryd.func3, Tryd.ntmps3
    go_wp2_with fail
    refine HSZ.out.mono ?_
    rintro e w1 ⟨rfl, hB1⟩
    have B01 := bt (below_al w _) hB1
    have X1 := Lib.hid (blk_next (alloc_blk w #[.int .i64 C.r, .int .i64 C.d, .int .i64 C.b, .int .i64 C.l, .int .i64 C.m, .int .i64 C.n, .int .i64 C.e, .slice a C.s.length c] 24) hB1)
    clear hB1
    have ca0 := cell_blk X1.out 0
    have ca1 := cell_blk X1.out 1
    have ca2 := cell_blk X1.out 2
    have ca3 := cell_blk X1.out 3
    have ca4 := cell_blk X1.out 4
    have ca5 := cell_blk X1.out 5
    have ca6 := cell_blk X1.out 6
    have ca7 := cell_blk X1.out 7
    have la := blk_lt X1.out
    go_wp2_with fail
    refine (toCfg C _ _ (h0.out.below B01) hl).mono ?_
    rintro e w2 ⟨⟨v2, rfl, ho2⟩, B12⟩
    have R2 := Lib.hid (intRow_of_owns ho2 (by omega))
    have X2 := Lib.hid (blk_next X1.out B12)
    have B02 := Lib.hid (bt B01 B12)
    clear ca0 ca1 ca2 ca3 ca4 ca5 ca6 ca7 la
    clear ho2 B12 B01 X1
    go_wp2_with fail
    refine (specConfigText C v2 w2 R2.out).mono ?_
    rintro e w3 ⟨rfl, B23⟩
    have X3 := Lib.hid (blk_next X2.out B23)
    have B03 := Lib.hid (bt B02.out B23)
    clear B23 X2 B02 R2
    have ca0 := cell_blk X3.out 0
    have ca1 := cell_blk X3.out 1
    have ca2 := cell_blk X3.out 2
    have ca3 := cell_blk X3.out 3
    have ca4 := cell_blk X3.out 4
    have ca5 := cell_blk X3.out 5
    have ca6 := cell_blk X3.out 6
    have ca7 := cell_blk X3.out 7
    have la := blk_lt X3.out
    go_wp2_with fail
    refine (toCfg C _ _ (h0.out.below B03.out) hl).mono ?_
    rintro e w4 ⟨⟨v4, rfl, ho4⟩, B34⟩
    have R4 := Lib.hid (intRow_of_owns ho4 (by omega))
    have X4 := Lib.hid (blk_next X3.out B34)
    have B04 := Lib.hid (bt B03.out B34)
    clear ca0 ca1 ca2 ca3 ca4 ca5 ca6 ca7 la
    clear ho4 B34 B03 X3
    obtain ⟨a4, c4, rfl, _⟩ := intRow_form R4.out
    go_wp2_with fail
    have hA4 := below_al w4 (.cells #[.int .i64 C.r, .int .i64 C.d, .int .i64 C.b, .int .i64 C.l, .int .i64 C.m, .int .i64 C.n, .int .i64 C.e, .slice a4 C.s.length c4] 27)
    refine (HI.out _ (bt B04.out hA4) C _ (R4.out.below hA4) (by omega)).mono ?_
    rintro e w5 ⟨rfl, B45⟩
    have hP9 := blk_next (alloc_blk w4 #[.int .i64 C.r, .int .i64 C.d, .int .i64 C.b, .int .i64 C.l, .int .i64 C.m, .int .i64 C.n, .int .i64 C.e, .slice a4 C.s.length c4] 27) B45
    have hA9 := blk_next (blk_alloc X4.out _) B45
    have hX9 := (R4.out.below hA4).below B45
    have B05 := bt (bt B04.out hA4) B45
    have hR9 := h0.out.below B05
    clear X4 B04 R4 hA4 B45
    go_wp2_with fail
    have hS9 : TwS w5 w4.heap.size w.heap.size C C (.slice a4 C.s.length c4) (.slice a C.s.length c) w5.drew := TwS.mk (hP9) (hA9) (Below.refl _ _).drew
    refine wp_region_noPanic ?_
    refine wp_region_held_drew (S := (TwS w5 w4.heap.size w.heap.size C C (.slice a4 C.s.length c4) (.slice a C.s.length c))) (by kernel_rfl) hS9 (fun hHeld => ?_)
    clear hS9
    refine wpAnyH_take (i := 0) (oi := ?o1) (v := ?v1) ?hi1 ?hs1 ?hf1 ?hr1 ?hQ1 ?hy1 ?hS1 ?rest1
    case hi1 => rfl
    case hs1 => kernel_rfl
    case hf1 => kernel_rfl
    case hr1 => kernel_rfl
    case hQ1 => exact fun _ _ _ h => h
    case hS1 => assumption
    case hy1 =>
      refine Or.inl ⟨by kernel_rfl, ?_⟩
      intro w' hSw
      (try dsimp only at hSw)
      go_simp
      (try rfl)
    (try simp only [List.getElem_toArray, List.getElem_cons_zero, Act.put, List.setIfInBounds_toArray, List.set_cons_zero, List.set_cons_succ])
    refine wpAnyH_take (i := 1) (oi := ?o2) (v := ?v2) ?hi2 ?hs2 ?hf2 ?hr2 ?hQ2 ?hy2 ?hS2 ?rest2
    case hi2 => rfl
    case hs2 => kernel_rfl
    case hf2 => kernel_rfl
    case hr2 => kernel_rfl
    case hQ2 => exact fun _ _ _ h => h
    case hS2 => assumption
    case hy2 =>
      refine Or.inl ⟨by kernel_rfl, ?_⟩
      intro w' hSw
      (try dsimp only at hSw)
      go_simp
      (try rfl)
    (try simp only [List.getElem_toArray, List.getElem_cons_succ, List.getElem_cons_zero, Act.put, List.setIfInBounds_toArray, List.set_cons_zero, List.set_cons_succ])
    refine wpAnyH_ready (rs := [2]) (by kernel_rfl) (by simp) ?_
    refine AllReadyH.cons rfl (fun K hK => ?_) AllReadyH.nil
    · go_simp
      refine (toCfg C _ _ (IntRow.drew hR9) (by omega)).mono ?_
      rintro e wa9 ⟨⟨va9, rfl, hoa9⟩, hBa9⟩
      refine hK.out _ _ ?_ (fun hHeld => ?_)
      · exact SmS.next hHeld hBa9
      clear hK K
      (try simp only [List.getElem_toArray, List.getElem_cons_succ, List.getElem_cons_zero, Act.put, List.setIfInBounds_toArray, List.set_cons_zero, List.set_cons_succ])
      refine wpAnyH_ready (rs := [3]) (by kernel_rfl) (by simp) ?_
      refine AllReadyH.cons rfl (fun K hK => ?_) AllReadyH.nil
      · go_simp
        refine (eqCfg C _ _ _ ((IntRow.drew hX9).below hBa9) (intRow_of_owns hoa9 (by omega))).mono ?_
        rintro e wb9 ⟨rfl, hBb9⟩
        refine hK.out _ _ ?_ (fun hHeld => ?_)
        · exact SmS.next hHeld hBb9
        clear hK K
        (try simp only [List.getElem_toArray, List.getElem_cons_succ, List.getElem_cons_zero, Act.put, List.setIfInBounds_toArray, List.set_cons_zero, List.set_cons_succ])
        refine wpAnyH_take (i := 4) (oi := ?o3) (v := ?v3) ?hi3 ?hs3 ?hf3 ?hr3 ?hQ3 ?hy3 ?hS3 ?rest3
        case hi3 => rfl
        case hs3 => kernel_rfl
        case hf3 => kernel_rfl
        case hr3 => kernel_rfl
        case hQ3 => exact fun _ _ _ h => h
        case hS3 => assumption
        case hy3 =>
          refine Or.inl ⟨by kernel_rfl, ?_⟩
          intro w' hSw
          (try dsimp only at hSw)
          go_simp
          (try rfl)
        (try simp only [List.getElem_toArray, List.getElem_cons_succ, List.getElem_cons_zero, Act.put, List.setIfInBounds_toArray, List.set_cons_zero, List.set_cons_succ])
        refine wpAnyH_done (by kernel_rfl) ?_ _
        refine NoPanic.normal ?_
        go_wp2_with fail
        go_ret
        exact ⟨rfl, bt B05 (bt (below_dr hBa9) hBb9)⟩

end Go.Proofs.YtnnbhgnllbjmeaaDoor
