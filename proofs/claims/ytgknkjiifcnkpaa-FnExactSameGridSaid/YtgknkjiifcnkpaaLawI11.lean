/-
  The walk of the exact law on two grids; the program's contract is a hypothesis.
-/
import Derived.Test.YtgknkjiifcnkpaaLawH11
import Derived.Test.YtgknkjiifcnkpaaPk4
namespace Go.Proofs.Ytgknkjiifcnkpaa
open Go.RowKit

/-- Two grids hold the same. -/
def sameGr (A B : Grd) : Bool := sameG9 A.cs B.cs && sameG9 A.bs B.bs
/-- What the program is to answer for two grids. -/
def ImplSameGrid : Prop := ∀ (A B : Grd) (u1 u2 v1 v2 : Value) (w : World), GrdRow w A u1 u2 → GrdRow w B v1 v2 → szGr A ≤ 1048576 → szGr B ≤ 1048576 → Calls Try.prog 24 #[.agg #[u1, u2], .agg #[v1, v2]] w fun e w' => e = .returned (.bool (sameGr A B)) ∧ Below w.heap.size w w'

set_option maxRecDepth 100000 in
theorem specSameGrid (A B : Grd) (u1 u2 v1 v2 : Value) (w : World) (ha : GrdRow w A u1 u2) (hb : GrdRow w B v1 v2) :
    Calls Try.prog 22 #[.agg #[u1, u2], .agg #[v1, v2]] w fun e w' => e = .returned (.bool (sameGr A B)) ∧ Below w.heap.size w w' := by
  obtain ⟨h1, h2⟩ := ha
  obtain ⟨k1, k2⟩ := hb
  obtain ⟨a1, c1, rfl, _⟩ := iiRow_form h1
  obtain ⟨a2, c2, rfl, _⟩ := iiRow_form h2
  obtain ⟨b1, g1, rfl, _⟩ := iiRow_form k1
  obtain ⟨b2, g2, rfl, _⟩ := iiRow_form k2
  have hA := bt (bl_al w (.cells #[.slice a1 A.cs.length c1, .slice a2 A.bs.length c2] 38)) (bl_al _ (.cells #[.slice b1 B.cs.length g1, .slice b2 B.bs.length g2] 38))
  have xa := blk_al (alloc_blk w #[.slice a1 A.cs.length c1, .slice a2 A.bs.length c2] 38) (.cells #[.slice b1 B.cs.length g1, .slice b2 B.bs.length g2] 38)
  have xb := alloc_blk (w.alloc (.cells #[.slice a1 A.cs.length c1, .slice a2 A.bs.length c2] 38)) #[.slice b1 B.cs.length g1, .slice b2 B.bs.length g2] 38
  rw [sz_alloc] at xb
  have p0 := cell_blk xa 0
  have p1 := cell_blk xa 1
  have q0 := cell_blk xb 0
  have q1 := cell_blk xb 1
  have lp := blk_lt xa
  have lq := blk_lt xb
  by_cases e1 : sameG9 A.cs B.cs = true
  · have e1 : sameG9 A.cs B.cs = true := by simpa using e1
    have K1 := Lib.hid (fun w => e1 ▸ specGrids w (.slice a1 A.cs.length c1) (.slice b1 B.cs.length g1) A.cs B.cs)
    rw [show sameGr A B = sameG9 A.bs B.bs by unfold sameGr; rw [e1]; rfl]
    clear e1
    go_enter Try.func22, Try.ntmps22
    go_wp2_with fail
    refine (K1.out _ (h1.below hA) (k1.below hA)).mono ?_
    rintro e w1 ⟨rfl, hB1⟩
    have X1 := blk_next xa hB1
    have X2 := blk_next xb hB1
    have hA2 := bt hA hB1
    clear p0 p1 q0 q1 lp lq xa xb
    have p0 := cell_blk X1 0
    have p1 := cell_blk X1 1
    have q0 := cell_blk X2 0
    have q1 := cell_blk X2 1
    have lp := blk_lt X1
    have lq := blk_lt X2
    have h3 := Lib.hid (h2.below hA2)
    have k3 := Lib.hid (k2.below hA2)
    have HA2 := Lib.hid hA2
    clear X1 X2 hB1 hA hA2 h1 k1 h2 k2
    go_wp2_with fail
    refine (specGrids _ _ _ A.bs B.bs h3.out k3.out).mono ?_
    rintro e w2 ⟨rfl, hB2⟩
    go_wp2_with fail
    go_ret
    exact ⟨rfl, bt HA2.out hB2⟩
  · have e1 : sameG9 A.cs B.cs = false := by simpa using e1
    have K1 := Lib.hid (fun w => e1 ▸ specGrids w (.slice a1 A.cs.length c1) (.slice b1 B.cs.length g1) A.cs B.cs)
    rw [show sameGr A B = false by unfold sameGr; rw [e1]; rfl]
    clear e1
    go_enter Try.func22, Try.ntmps22
    go_wp2_with fail
    refine (K1.out _ (h1.below hA) (k1.below hA)).mono ?_
    rintro e w1 ⟨rfl, hB1⟩
    have X1 := blk_next xa hB1
    have X2 := blk_next xb hB1
    have hA2 := bt hA hB1
    clear p0 p1 q0 q1 lp lq xa xb
    have p0 := cell_blk X1 0
    have p1 := cell_blk X1 1
    have q0 := cell_blk X2 0
    have q1 := cell_blk X2 1
    have lp := blk_lt X1
    have lq := blk_lt X2
    have h3 := Lib.hid (h2.below hA2)
    have k3 := Lib.hid (k2.below hA2)
    have HA2 := Lib.hid hA2
    clear X1 X2 hB1 hA hA2 h1 k1 h2 k2
    go_wp2_with fail
    go_ret
    exact ⟨rfl, HA2.out⟩

set_option maxRecDepth 100000 in
set_option maxHeartbeats 16000000 in
theorem lawExSameGrid (hI : ImplSameGrid) (A B : Grd) (u1 u2 v1 v2 : Value) (w : World) (ha : GrdRow w A u1 u2) (hb : GrdRow w B v1 v2) :
    Calls Try.prog 10 #[.agg #[u1, u2], .agg #[v1, v2]] w fun e w' => e = .returned (.bool true) ∧ Below w.heap.size w w' := by
  obtain ⟨a1, c1, a2, c2, rfl, rfl⟩ := ha.form
  obtain ⟨b1, g1, b2, g2, rfl, rfl⟩ := hb.form
  have hAA := bt (bl_al w (.cells #[.slice a1 A.cs.length c1, .slice a2 A.bs.length c2] 52)) (bl_al _ (.cells #[.slice b1 B.cs.length g1, .slice b2 B.bs.length g2] 52))
  have xa := blk_al (alloc_blk w #[.slice a1 A.cs.length c1, .slice a2 A.bs.length c2] 52) (.cells #[.slice b1 B.cs.length g1, .slice b2 B.bs.length g2] 52)
  have xb := alloc_blk (w.alloc (.cells #[.slice a1 A.cs.length c1, .slice a2 A.bs.length c2] 52)) #[.slice b1 B.cs.length g1, .slice b2 B.bs.length g2] 52
  rw [sz_alloc] at xb
  have XA0 := Lib.hid xa
  have XB0 := Lib.hid xb
  have BA0 := Lib.hid hAA
  clear xa xb hAA
  by_cases hov : 1048576 < szGr A
  · go_enter Try.func10, Try.ntmps10
    go_wp2_with fail
    refine (szGrid_no A _ _ _ (ha.below BA0.out) 1048576 (by omega) hov).mono ?_
    rintro e w1 ⟨rfl, hB1⟩
    go_wp2_with fail
    go_ret
    exact ⟨rfl, bt BA0.out hB1⟩
  · obtain ⟨r, hr⟩ : ∃ r : Nat, 1048576 = szGr A + r := ⟨1048576 - szGr A, by omega⟩
    have hr0 : ¬ (r : Int) < 0 := by omega
    have hr9 : r ≤ 1048576 := by omega
    have hlA : szGr A ≤ 1048576 := by omega
    have HSZ := Lib.hid (szGrid_ok A _ _ _ (ha.below BA0.out) 1048576 (by omega) r hr)
    by_cases hov2 : r < szGr B
    · go_enter Try.func10, Try.ntmps10
      go_wp2_with fail
      refine HSZ.out.mono ?_
      rintro e w1 ⟨rfl, hB1⟩
      have XB1 := Lib.hid (blk_next XB0.out hB1)
      have BA1 := Lib.hid (bt BA0.out hB1)
      clear hB1
      have cb0 := cell_blk XB1.out 0
      have cb1 := cell_blk XB1.out 1
      have lb := blk_lt XB1.out
      go_wp2_with fail
      refine (szGrid_no B _ _ _ (hb.below BA1.out) r hr9 hov2).mono ?_
      rintro e w2 ⟨rfl, hB2⟩
      go_wp2_with fail
      go_ret
      exact ⟨rfl, bt BA1.out hB2⟩
    · have hlB : szGr B ≤ 1048576 := by omega
      obtain ⟨r2, hr2⟩ : ∃ r2 : Nat, r = szGr B + r2 := ⟨r - szGr B, by omega⟩
      have hr20 : ¬ (r2 : Int) < 0 := by omega
      have HSZ2 : Hid (∀ W, GrdRow W B (.slice b1 B.cs.length g1) (.slice b2 B.bs.length g2) → Calls Try.prog 38 #[.agg #[.slice b1 B.cs.length g1, .slice b2 B.bs.length g2], .int .i64 r] W fun e w' => e = .returned (.int .i64 r2) ∧ Below W.heap.size W w') := Lib.hid (fun W hW => szGrid_ok B _ _ W hW r hr9 r2 hr2)
      have h0a := Lib.hid ha
      have h0b := Lib.hid hb
      obtain ⟨sb, hsb⟩ : ∃ sb, sameGr A B = sb := ⟨_, rfl⟩
      have hbb : (sb != sb) = false := by cases sb <;> rfl
      have HI2 : Hid (∀ (u1 u2 v1 v2 : Value) (w : World), GrdRow w A u1 u2 → GrdRow w B v1 v2 → Calls Try.prog 24 #[.agg #[u1, u2], .agg #[v1, v2]] w fun e w' => e = .returned (.bool sb) ∧ Below w.heap.size w w') := Lib.hid (fun u1 u2 v1 v2 w h1 h2 => by have := hI A B u1 u2 v1 v2 w h1 h2 hlA hlB; rwa [hsb] at this)
      have HS2 : Hid (∀ (u1 u2 v1 v2 : Value) (w : World), GrdRow w A u1 u2 → GrdRow w B v1 v2 → Calls Try.prog 22 #[.agg #[u1, u2], .agg #[v1, v2]] w fun e w' => e = .returned (.bool sb) ∧ Below w.heap.size w w') := Lib.hid (fun u1 u2 v1 v2 w h1 h2 => by have := specSameGrid A B u1 u2 v1 v2 w h1 h2; rwa [hsb] at this)
      clear hsb hI ha hb hov hov2 hr hr2
      go_enter Try.func10, Try.ntmps10
      go_wp2_with fail
      refine HSZ.out.mono ?_
      rintro e w1 ⟨rfl, hB1⟩
      have XA1 := Lib.hid (blk_next XA0.out hB1)
      have XB1 := Lib.hid (blk_next XB0.out hB1)
      have BA1 := Lib.hid (bt BA0.out hB1)
      clear hB1
      have cb0 := cell_blk XB1.out 0
      have cb1 := cell_blk XB1.out 1
      have lb := blk_lt XB1.out
      go_wp2_with fail
      refine (HSZ2.out _ (h0b.out.below BA1.out)).mono ?_
      rintro e wS ⟨rfl, hB2⟩
      have XA := Lib.hid (blk_next XA1.out hB2)
      have XB := Lib.hid (blk_next XB1.out hB2)
      have BS := Lib.hid (bt BA1.out hB2)
      clear cb0 cb1 lb
      clear hB2 XA1 XB1 BA1
      go_wp2_with fail
      have hS1 : TgT wS w.heap.size (w.heap.size + 1) (.slice a1 A.cs.length c1) (.slice a2 A.bs.length c2) (.slice b1 B.cs.length g1) (.slice b2 B.bs.length g2) wS.drew := TgT.mk XA.out XB.out (Below.refl _ _).drew
      refine wp_region_noPanic ?_
      refine wp_region_held_drew (S := (TgT wS w.heap.size (w.heap.size + 1) (.slice a1 A.cs.length c1) (.slice a2 A.bs.length c2) (.slice b1 B.cs.length g1) (.slice b2 B.bs.length g2))) (by kernel_rfl) hS1 (fun hHeld => ?_)
      clear hS1
      refine wpAnyH_take (i := 0) (oi := ?o7) (v := ?v7) ?hi7 ?hs7 ?hf7 ?hr7 ?hQ7 ?hy7 ?hS7 ?rest7
      case hi7 => rfl
      case hs7 => kernel_rfl
      case hf7 => kernel_rfl
      case hr7 => kernel_rfl
      case hQ7 => exact fun _ _ _ h => h
      case hS7 => assumption
      case hy7 =>
        refine Or.inl ⟨by kernel_rfl, ?_⟩
        intro w' hSw
        (try dsimp only at hSw)
        go_simp
        (try rfl)
      (try simp only [List.getElem_toArray, List.getElem_cons_zero, Act.put, List.setIfInBounds_toArray, List.set_cons_zero, List.set_cons_succ])
      refine wpAnyH_take (i := 2) (oi := ?o8) (v := ?v8) ?hi8 ?hs8 ?hf8 ?hr8 ?hQ8 ?hy8 ?hS8 ?rest8
      case hi8 => rfl
      case hs8 => kernel_rfl
      case hf8 => kernel_rfl
      case hr8 => kernel_rfl
      case hQ8 => exact fun _ _ _ h => h
      case hS8 => assumption
      case hy8 =>
        refine Or.inl ⟨by kernel_rfl, ?_⟩
        intro w' hSw
        (try dsimp only at hSw)
        go_simp
        (try rfl)
      (try simp only [List.getElem_toArray, List.getElem_cons_succ, List.getElem_cons_zero, Act.put, List.setIfInBounds_toArray, List.set_cons_zero, List.set_cons_succ])
      refine wpAnyH_ready (rs := [1]) (by kernel_rfl) (by simp) ?_
      refine AllReadyH.cons rfl (fun K hK => ?_) AllReadyH.nil
      · go_simp
        refine (toGr A _ _ _ (GrdRow.drew (h0a.out.below BS.out)) hlA).mono ?_
        rintro e wa1 ⟨⟨va1, va2, rfl, hoa1⟩, hBa1⟩
        refine hK.out _ _ ?_ (fun hHeld => ?_)
        · exact TgT.next hHeld hBa1
        clear hK K
        (try simp only [List.getElem_toArray, List.getElem_cons_succ, List.getElem_cons_zero, Act.put, List.setIfInBounds_toArray, List.set_cons_zero, List.set_cons_succ])
        refine wpAnyH_ready (rs := [3]) (by kernel_rfl) (by simp) ?_
        refine AllReadyH.cons rfl (fun K hK => ?_) AllReadyH.nil
        · go_simp
          refine (toGr B _ _ _ ((GrdRow.drew (h0b.out.below BS.out)).below hBa1) hlB).mono ?_
          rintro e wb1 ⟨⟨vb1, vb2, rfl, hob1⟩, hBb1⟩
          refine hK.out _ _ ?_ (fun hHeld => ?_)
          · exact TgT.next hHeld hBb1
          clear hK K
          (try simp only [List.getElem_toArray, List.getElem_cons_succ, List.getElem_cons_zero, Act.put, List.setIfInBounds_toArray, List.set_cons_zero, List.set_cons_succ])
          refine wpAnyH_ready (rs := [4]) (by kernel_rfl) (by simp) ?_
          refine AllReadyH.cons rfl (fun K hK => ?_) AllReadyH.nil
          · go_simp
            refine (HS2.out _ _ _ _ _ ((hoa1.row hlA).below hBb1) (hob1.row hlB)).mono ?_
            rintro e w3 ⟨rfl, hBc1⟩
            refine hK.out _ _ ?_ (fun hHeld => ?_)
            · exact TgT.next hHeld hBc1
            clear hK K
            (try simp only [List.getElem_toArray, List.getElem_cons_succ, List.getElem_cons_zero, Act.put, List.setIfInBounds_toArray, List.set_cons_zero, List.set_cons_succ])
            refine wpAnyH_take (i := 5) (oi := ?o9) (v := ?v9) ?hi9 ?hs9 ?hf9 ?hr9 ?hQ9 ?hy9 ?hS9 ?rest9
            case hi9 => rfl
            case hs9 => kernel_rfl
            case hf9 => kernel_rfl
            case hr9 => kernel_rfl
            case hQ9 => exact fun _ _ _ h => h
            case hS9 => assumption
            case hy9 =>
              refine Or.inl ⟨by kernel_rfl, ?_⟩
              intro w' hSw
              (try dsimp only at hSw)
              go_simp
              (try rfl)
            (try simp only [List.getElem_toArray, List.getElem_cons_succ, List.getElem_cons_zero, Act.put, List.setIfInBounds_toArray, List.set_cons_zero, List.set_cons_succ])
            refine wpAnyH_done (by kernel_rfl) ?_ _
            refine NoPanic.normal ?_
            have BT3 := Lib.hid (bt (below_dr9 hBa1) (bt hBb1 hBc1))
            have XA3 := Lib.hid (blk_next XA.out BT3.out)
            have XB3 := Lib.hid (blk_next XB.out BT3.out)
            have B03 := Lib.hid (bt BS.out BT3.out)
            clear hBa1 hBb1 hBc1 hoa1 hob1 hHeld BT3 XA XB BS
            have ca0 := cell_blk XA3.out 0
            have ca1 := cell_blk XA3.out 1
            have la := blk_lt XA3.out
            go_wp2_with fail
            refine (toGr A _ _ _ (h0a.out.below B03.out) hlA).mono ?_
            rintro e w4 ⟨⟨v41, v42, rfl, ho4⟩, B34⟩
            have R4 := Lib.hid (ho4.row hlA)
            obtain ⟨d1, k1, d2, k2, rfl, rfl⟩ := R4.out.form
            have XA4 := Lib.hid (blk_next XA3.out B34)
            have XB4 := Lib.hid (blk_next XB3.out B34)
            have B04 := Lib.hid (bt B03.out B34)
            clear ca0 ca1 la
            clear ho4 B34 XA3 XB3 B03
            have XB4b := Lib.hid (blk_al XB4.out (.cells #[.slice d1 A.cs.length k1, .slice d2 A.bs.length k2] 38))
            have cb0 := cell_blk XB4b.out 0
            have cb1 := cell_blk XB4b.out 1
            have lb := blk_lt XB4b.out
            go_wp2_with fail
            have hA4 := bl_al w4 (.cells #[.slice d1 A.cs.length k1, .slice d2 A.bs.length k2] 38)
            refine (toGr B _ _ _ ((h0b.out.below B04.out).below hA4) hlB).mono ?_
            rintro e w5 ⟨⟨v51, v52, rfl, ho5⟩, B45⟩
            have R5 := Lib.hid (ho5.row hlB)
            obtain ⟨e1, m1, e2, m2, rfl, rfl⟩ := R5.out.form
            have P5 := Lib.hid (blk_next (alloc_blk w4 #[.slice d1 A.cs.length k1, .slice d2 A.bs.length k2] 38) B45)
            have BT5 := Lib.hid (bt hA4 B45)
            have XA5 := Lib.hid (blk_next XA4.out BT5.out)
            have XB5 := Lib.hid (blk_next XB4.out BT5.out)
            have S4 := Lib.hid (R4.out.below BT5.out)
            have B05 := Lib.hid (bt B04.out BT5.out)
            clear cb0 cb1 lb
            clear ho5 B45 hA4 XA4 XB4 XB4b B04 R4 BT5
            have P5b := Lib.hid (blk_al P5.out (.cells #[.slice e1 B.cs.length m1, .slice e2 B.bs.length m2] 38))
            have cp0 := cell_blk P5b.out 0
            have cp1 := cell_blk P5b.out 1
            have lp := blk_lt P5b.out
            go_wp2_with fail
            have hA5 := bl_al w5 (.cells #[.slice e1 B.cs.length m1, .slice e2 B.bs.length m2] 38)
            refine (HI2.out _ _ _ _ _ (S4.out.below hA5) (R5.out.below hA5)).mono ?_
            rintro e w6 ⟨rfl, B56⟩
            have Q6 := Lib.hid (blk_next (alloc_blk w5 #[.slice e1 B.cs.length m1, .slice e2 B.bs.length m2] 38) B56)
            have BT6 := Lib.hid (bt hA5 B56)
            have hP8 := blk_next P5.out BT6.out
            have hA8 := blk_next XA5.out BT6.out
            have XB6 := Lib.hid (blk_next XB5.out BT6.out)
            have hX8 := S4.out.below BT6.out
            have S5 := Lib.hid (R5.out.below BT6.out)
            have B06 := Lib.hid (bt B05.out BT6.out)
            have hR8 := h0a.out.below B06.out
            clear cp0 cp1 lp
            clear B56 hA5 P5 P5b XA5 XB5 S4 R5 B05 BT6
            go_wp2_with fail
            have hS8 : TgT w6 w4.heap.size w.heap.size (.slice d1 A.cs.length k1) (.slice d2 A.bs.length k2) (.slice a1 A.cs.length c1) (.slice a2 A.bs.length c2) w6.drew := TgT.mk (hP8) (hA8) (Below.refl _ _).drew
            refine wp_region_noPanic ?_
            refine wp_region_held_drew (S := (TgT w6 w4.heap.size w.heap.size (.slice d1 A.cs.length k1) (.slice d2 A.bs.length k2) (.slice a1 A.cs.length c1) (.slice a2 A.bs.length c2))) (by kernel_rfl) hS8 (fun hHeld => ?_)
            clear hS8
            refine wpAnyH_take (i := 0) (oi := ?o1) (v := ?v1) ?hi1 ?hs1 ?hf1 ?hr1 ?hQ1 ?hy1 ?hS1 ?rest1
            case hi1 => rfl
            case hs1 => kernel_rfl
            case hf1 => kernel_rfl
            case hr1 => kernel_rfl
            case hQ1 => exact fun _ _ _ h => h
            case hS1 => assumption
            case hy1 =>
              refine Or.inl ⟨by kernel_rfl, ?_⟩
              intro w' hSw
              (try dsimp only at hSw)
              go_simp
              (try rfl)
            (try simp only [List.getElem_toArray, List.getElem_cons_zero, Act.put, List.setIfInBounds_toArray, List.set_cons_zero, List.set_cons_succ])
            refine wpAnyH_take (i := 1) (oi := ?o2) (v := ?v2) ?hi2 ?hs2 ?hf2 ?hr2 ?hQ2 ?hy2 ?hS2 ?rest2
            case hi2 => rfl
            case hs2 => kernel_rfl
            case hf2 => kernel_rfl
            case hr2 => kernel_rfl
            case hQ2 => exact fun _ _ _ h => h
            case hS2 => assumption
            case hy2 =>
              refine Or.inl ⟨by kernel_rfl, ?_⟩
              intro w' hSw
              (try dsimp only at hSw)
              go_simp
              (try rfl)
            (try simp only [List.getElem_toArray, List.getElem_cons_succ, List.getElem_cons_zero, Act.put, List.setIfInBounds_toArray, List.set_cons_zero, List.set_cons_succ])
            refine wpAnyH_ready (rs := [2]) (by kernel_rfl) (by simp) ?_
            refine AllReadyH.cons rfl (fun K hK => ?_) AllReadyH.nil
            · go_simp
              refine (toGr A _ _ _ (GrdRow.drew hR8) hlA).mono ?_
              rintro e wa8 ⟨⟨va8, vb8, rfl, hoa8⟩, hBa8⟩
              refine hK.out _ _ ?_ (fun hHeld => ?_)
              · exact TgT.next hHeld hBa8
              clear hK K
              (try simp only [List.getElem_toArray, List.getElem_cons_succ, List.getElem_cons_zero, Act.put, List.setIfInBounds_toArray, List.set_cons_zero, List.set_cons_succ])
              refine wpAnyH_ready (rs := [3]) (by kernel_rfl) (by simp) ?_
              refine AllReadyH.cons rfl (fun K hK => ?_) AllReadyH.nil
              · go_simp
                refine (eqGr A _ _ _ _ _ ((GrdRow.drew hX8).below hBa8) (hoa8.row hlA)).mono ?_
                rintro e wb8 ⟨rfl, hBb8⟩
                refine hK.out _ _ ?_ (fun hHeld => ?_)
                · exact TgT.next hHeld hBb8
                clear hK K
                (try simp only [List.getElem_toArray, List.getElem_cons_succ, List.getElem_cons_zero, Act.put, List.setIfInBounds_toArray, List.set_cons_zero, List.set_cons_succ])
                refine wpAnyH_take (i := 4) (oi := ?o3) (v := ?v3) ?hi3 ?hs3 ?hf3 ?hr3 ?hQ3 ?hy3 ?hS3 ?rest3
                case hi3 => rfl
                case hs3 => kernel_rfl
                case hf3 => kernel_rfl
                case hr3 => kernel_rfl
                case hQ3 => exact fun _ _ _ h => h
                case hS3 => assumption
                case hy3 =>
                  refine Or.inl ⟨by kernel_rfl, ?_⟩
                  intro w' hSw
                  (try dsimp only at hSw)
                  go_simp
                  (try rfl)
                (try simp only [List.getElem_toArray, List.getElem_cons_succ, List.getElem_cons_zero, Act.put, List.setIfInBounds_toArray, List.set_cons_zero, List.set_cons_succ])
                refine wpAnyH_done (by kernel_rfl) ?_ _
                refine NoPanic.normal ?_
                have BT7 := Lib.hid (bt (below_dr9 hBa8) hBb8)
                have hP7 := blk_next Q6.out BT7.out
                have hA7 := blk_next XB6.out BT7.out
                have hX7 := S5.out.below BT7.out
                have B07 := Lib.hid (bt B06.out BT7.out)
                have hR7 := h0b.out.below B07.out
                clear hBa8 hBb8 hoa8 hHeld BT7 Q6 XB6 S5 B06 hP8 hA8 hX8 hR8
                go_wp2_with fail
                have hS7 : TgT wb8 w5.heap.size (w.heap.size + 1) (.slice e1 B.cs.length m1) (.slice e2 B.bs.length m2) (.slice b1 B.cs.length g1) (.slice b2 B.bs.length g2) wb8.drew := TgT.mk (hP7) (hA7) (Below.refl _ _).drew
                refine wp_region_noPanic ?_
                refine wp_region_held_drew (S := (TgT wb8 w5.heap.size (w.heap.size + 1) (.slice e1 B.cs.length m1) (.slice e2 B.bs.length m2) (.slice b1 B.cs.length g1) (.slice b2 B.bs.length g2))) (by kernel_rfl) hS7 (fun hHeld => ?_)
                clear hS7
                refine wpAnyH_take (i := 0) (oi := ?o4) (v := ?v4) ?hi4 ?hs4 ?hf4 ?hr4 ?hQ4 ?hy4 ?hS4 ?rest4
                case hi4 => rfl
                case hs4 => kernel_rfl
                case hf4 => kernel_rfl
                case hr4 => kernel_rfl
                case hQ4 => exact fun _ _ _ h => h
                case hS4 => assumption
                case hy4 =>
                  refine Or.inl ⟨by kernel_rfl, ?_⟩
                  intro w' hSw
                  (try dsimp only at hSw)
                  go_simp
                  (try rfl)
                (try simp only [List.getElem_toArray, List.getElem_cons_zero, Act.put, List.setIfInBounds_toArray, List.set_cons_zero, List.set_cons_succ])
                refine wpAnyH_take (i := 1) (oi := ?o5) (v := ?v5) ?hi5 ?hs5 ?hf5 ?hr5 ?hQ5 ?hy5 ?hS5 ?rest5
                case hi5 => rfl
                case hs5 => kernel_rfl
                case hf5 => kernel_rfl
                case hr5 => kernel_rfl
                case hQ5 => exact fun _ _ _ h => h
                case hS5 => assumption
                case hy5 =>
                  refine Or.inl ⟨by kernel_rfl, ?_⟩
                  intro w' hSw
                  (try dsimp only at hSw)
                  go_simp
                  (try rfl)
                (try simp only [List.getElem_toArray, List.getElem_cons_succ, List.getElem_cons_zero, Act.put, List.setIfInBounds_toArray, List.set_cons_zero, List.set_cons_succ])
                refine wpAnyH_ready (rs := [2]) (by kernel_rfl) (by simp) ?_
                refine AllReadyH.cons rfl (fun K hK => ?_) AllReadyH.nil
                · go_simp
                  refine (toGr B _ _ _ (GrdRow.drew hR7) hlB).mono ?_
                  rintro e wa7 ⟨⟨va7, vb7, rfl, hoa7⟩, hBa7⟩
                  refine hK.out _ _ ?_ (fun hHeld => ?_)
                  · exact TgT.next hHeld hBa7
                  clear hK K
                  (try simp only [List.getElem_toArray, List.getElem_cons_succ, List.getElem_cons_zero, Act.put, List.setIfInBounds_toArray, List.set_cons_zero, List.set_cons_succ])
                  refine wpAnyH_ready (rs := [3]) (by kernel_rfl) (by simp) ?_
                  refine AllReadyH.cons rfl (fun K hK => ?_) AllReadyH.nil
                  · go_simp
                    refine (eqGr B _ _ _ _ _ ((GrdRow.drew hX7).below hBa7) (hoa7.row hlB)).mono ?_
                    rintro e wb7 ⟨rfl, hBb7⟩
                    refine hK.out _ _ ?_ (fun hHeld => ?_)
                    · exact TgT.next hHeld hBb7
                    clear hK K
                    (try simp only [List.getElem_toArray, List.getElem_cons_succ, List.getElem_cons_zero, Act.put, List.setIfInBounds_toArray, List.set_cons_zero, List.set_cons_succ])
                    refine wpAnyH_take (i := 4) (oi := ?o6) (v := ?v6) ?hi6 ?hs6 ?hf6 ?hr6 ?hQ6 ?hy6 ?hS6 ?rest6
                    case hi6 => rfl
                    case hs6 => kernel_rfl
                    case hf6 => kernel_rfl
                    case hr6 => kernel_rfl
                    case hQ6 => exact fun _ _ _ h => h
                    case hS6 => assumption
                    case hy6 =>
                      refine Or.inl ⟨by kernel_rfl, ?_⟩
                      intro w' hSw
                      (try dsimp only at hSw)
                      go_simp
                      (try rfl)
                    (try simp only [List.getElem_toArray, List.getElem_cons_succ, List.getElem_cons_zero, Act.put, List.setIfInBounds_toArray, List.set_cons_zero, List.set_cons_succ])
                    refine wpAnyH_done (by kernel_rfl) ?_ _
                    refine NoPanic.normal ?_
                    go_wp2_with fail
                    go_ret
                    exact ⟨rfl, bt B07.out (bt (below_dr9 hBa7) hBb7)⟩

end Go.Proofs.Ytgknkjiifcnkpaa
