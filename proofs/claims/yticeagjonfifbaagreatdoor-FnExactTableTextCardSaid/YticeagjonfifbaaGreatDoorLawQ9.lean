/-
  The walks of the exact laws on tables; the program's contracts are hypotheses.
-/
import Derived.Test.YticeagjonfifbaaGreatDoorPk5
import Derived.Test.YticeagjonfifbaaGreatDoorTabX
namespace Go.Proofs.YticeagjonfifbaaGreatDoor
open Go.RowKit

/-- What the program is to answer for a table: its text. -/
def ImplTabText (W : World) : Prop := ∀ (w : World), Below W.heap.size W w → ∀ (T : Tab) (u1 u2 u3 : Value), TabRow w T u1 u2 u3 → T.ns.length ≤ 1048576 → T.rs.length ≤ 1048576 → (∀ r ∈ T.rs, r.length ≤ 1048576) → T.ys.length ≤ 1048576 → (∀ p ∈ T.ns, p.length ≤ 9223372036854775807) → T.y.length ≤ 9223372036854775807 → Calls Tryz.prog 8 #[.agg #[u1, .string ⟨T.y.toArray⟩, u2, u3]] w fun e w' => e = .returned (.string ⟨(tabT T).toArray⟩) ∧ Below w.heap.size w w'

set_option maxRecDepth 100000 in
set_option maxHeartbeats 8000000 in
theorem lawExTableText (T : Tab) (u1 u2 u3 : Value) (w : World) (hI : ImplTabText w) (h : TabRow w T u1 u2 u3) (hnl : ∀ p ∈ T.ns, p.length ≤ 9223372036854775807) (hyl : T.y.length ≤ 9223372036854775807) :
    Calls Tryz.prog 4 #[.agg #[u1, .string ⟨T.y.toArray⟩, u2, u3]] w fun e w' => e = .returned (.bool true) ∧ Below w.heap.size w w' := by
  obtain ⟨a1, c1, a2, c2, a3, c3, rfl, rfl, rfl⟩ := h.form
  by_cases hov : 1048576 < szTab T
  · go_enter Tryz.func4, Tryz.ntmps4
    go_wp2_with fail
    refine (szTab_no T _ _ _ _ (h.below (bl_al w _)) hnl hyl 1048576 (by omega) hov).mono ?_
    rintro e w1 ⟨rfl, hB1⟩
    go_wp2_with fail
    go_ret
    exact ⟨rfl, bt (bl_al w _) hB1⟩
  · have hlT0 : szTab T ≤ 1048576 := by omega
    have hlT := Lib.hid (szTab_le hlT0)
    have hmT : Hid (T.ns.length ≤ 9223372036854775807 ∧ T.rs.length ≤ 9223372036854775807 ∧ (∀ r ∈ T.rs, r.length ≤ 9223372036854775807) ∧ T.ys.length ≤ 9223372036854775807) := Lib.hid ⟨Nat.le_trans hlT.out.1 (by omega), Nat.le_trans hlT.out.2.1 (by omega), fun r hr => Nat.le_trans (hlT.out.2.2.1 r hr) (by omega), Nat.le_trans hlT.out.2.2.2.1 (by omega)⟩
    obtain ⟨r, hr⟩ : ∃ r : Nat, 1048576 = szTab T + r := ⟨1048576 - szTab T, by omega⟩
    have hr0 : ¬ (r : Int) < 0 := by omega
    have HSZ := Lib.hid (szTab_ok T _ _ _ _ (h.below (bl_al w (.cells #[.slice a1 T.ns.length c1, .string ⟨T.y.toArray⟩, .slice a2 T.rs.length c2, .slice a3 T.ys.length c3] 38))) hnl 1048576 (by omega) r hr)
    have h0 := Lib.hid h
    have HI := Lib.hid hI
    have HNL := Lib.hid hnl
    have HYL := Lib.hid hyl
    obtain ⟨st, hst⟩ : ∃ st : ByteArray, (⟨(tabT T).toArray⟩ : ByteArray) = st := ⟨_, rfl⟩
    have HST := Lib.hid hst
    clear hst
    have HI2 : Hid (∀ (u1 u2 u3 : Value) (wz : World), Below w.heap.size w wz → TabRow wz T u1 u2 u3 → Calls Tryz.prog 8 #[.agg #[u1, .string ⟨T.y.toArray⟩, u2, u3]] wz fun e w' => e = .returned (.string st) ∧ Below wz.heap.size wz w') := Lib.hid (fun u1 u2 u3 wz hB hw => by have := HI.out wz hB T u1 u2 u3 hw hlT.out.1 hlT.out.2.1 hlT.out.2.2.1 hlT.out.2.2.2.1 HNL.out HYL.out; rwa [HST.out] at this)
    have HS2 : Hid (∀ (u1 u2 u3 : Value) (w : World), TabRow w T u1 u2 u3 → Calls Tryz.prog 9 #[.agg #[u1, .string ⟨T.y.toArray⟩, u2, u3]] w fun e w' => e = .returned (.string st) ∧ Below w.heap.size w w') := Lib.hid (fun u1 u2 u3 w hw => by have := specTabText T u1 u2 u3 w hw HYL.out HNL.out; rwa [HST.out] at this)
    clear HI HST
    clear hr hov h hI hnl hyl hlT0
    go_enter Tryz.func4, Tryz.ntmps4
    go_wp2_with fail
    refine HSZ.out.mono ?_
    rintro e w1 ⟨rfl, hB1⟩
    have B01 := bt (bl_al w _) hB1
    have X1 := Lib.hid (blk_next (alloc_blk w #[.slice a1 T.ns.length c1, .string ⟨T.y.toArray⟩, .slice a2 T.rs.length c2, .slice a3 T.ys.length c3] 38) hB1)
    clear hB1 HSZ
    have ca0 := cell_blk X1.out 0
    have ca1 := cell_blk X1.out 1
    have ca2 := cell_blk X1.out 2
    have ca3 := cell_blk X1.out 3
    have la := blk_lt X1.out
    go_wp2_with fail
    refine (toTab T _ _ _ _ (h0.out.below B01) hlT.out.1 hlT.out.2.1 hlT.out.2.2.1 hlT.out.2.2.2.1).mono ?_
    rintro e w2 ⟨⟨vs2, v21, v22, v23, rfl, ho2⟩, B12⟩
    have R2 := Lib.hid (ho2.row hmT.out.1 hmT.out.2.1 hmT.out.2.2.1 hmT.out.2.2.2)
    have X2 := Lib.hid (blk_next X1.out B12)
    have B02 := Lib.hid (bt B01 B12)
    clear ca0 ca1 ca2 ca3 la
    clear ho2 B12 B01 X1
    go_wp2_with fail
    refine (HS2.out v21 v22 v23 w2 R2.out).mono ?_
    rintro e w3 ⟨rfl, B23⟩
    have X3 := Lib.hid (blk_next X2.out B23)
    have B03 := Lib.hid (bt B02.out B23)
    clear B23 X2 B02 R2
    have ca0 := cell_blk X3.out 0
    have ca1 := cell_blk X3.out 1
    have ca2 := cell_blk X3.out 2
    have ca3 := cell_blk X3.out 3
    have la := blk_lt X3.out
    go_wp2_with fail
    refine (toTab T _ _ _ _ (h0.out.below B03.out) hlT.out.1 hlT.out.2.1 hlT.out.2.2.1 hlT.out.2.2.2.1).mono ?_
    rintro e w4 ⟨⟨vs4, v41, v42, v43, rfl, ho4⟩, B34⟩
    have R4 := Lib.hid (ho4.row hmT.out.1 hmT.out.2.1 hmT.out.2.2.1 hmT.out.2.2.2)
    have X4 := Lib.hid (blk_next X3.out B34)
    have B04 := Lib.hid (bt B03.out B34)
    clear ca0 ca1 ca2 ca3 la
    clear ho4 B34 B03 X3
    obtain ⟨d1, k1, d2, k2, d3, k3, rfl, rfl, rfl⟩ := R4.out.form
    go_wp2_with fail
    have hA4 := bl_al w4 (.cells #[.slice d1 T.ns.length k1, .string ⟨T.y.toArray⟩, .slice d2 T.rs.length k2, .slice d3 T.ys.length k3] 28)
    refine (HI2.out _ _ _ _ (bt B04.out hA4) (R4.out.below hA4)).mono ?_
    rintro e w5 ⟨rfl, B45⟩
    have hP9 := blk_next (alloc_blk w4 #[.slice d1 T.ns.length k1, .string ⟨T.y.toArray⟩, .slice d2 T.rs.length k2, .slice d3 T.ys.length k3] 28) B45
    have hA9 := blk_next (blk_al X4.out _) B45
    have hX9 := (R4.out.below hA4).below B45
    have B05 := bt (bt B04.out hA4) B45
    have hR9 := h0.out.below B05
    clear X4 B04 R4 hA4 B45
    go_wp2_with fail
    have hS9 : TwT w5 w4.heap.size w.heap.size (.slice d1 T.ns.length k1) (.string ⟨T.y.toArray⟩) (.slice d2 T.rs.length k2) (.slice d3 T.ys.length k3) (.slice a1 T.ns.length c1) (.string ⟨T.y.toArray⟩) (.slice a2 T.rs.length c2) (.slice a3 T.ys.length c3) w5.drew := TwT.mk (hP9) (hA9) (Below.refl _ _).drew
    refine wp_region_noPanic ?_
    refine wp_region_held_drew (S := (TwT w5 w4.heap.size w.heap.size (.slice d1 T.ns.length k1) (.string ⟨T.y.toArray⟩) (.slice d2 T.rs.length k2) (.slice d3 T.ys.length k3) (.slice a1 T.ns.length c1) (.string ⟨T.y.toArray⟩) (.slice a2 T.rs.length c2) (.slice a3 T.ys.length c3))) (by kernel_rfl) hS9 (fun hHeld => ?_)
    clear hS9
    refine wpAnyH_take (i := 0) (oi := ?o4) (v := ?v4) ?hi4 ?hs4 ?hf4 ?hr4 ?hQ4 ?hy4 ?hS4 ?rest4
    case hi4 => rfl
    case hs4 => kernel_rfl
    case hf4 => kernel_rfl
    case hr4 => kernel_rfl
    case hQ4 => exact fun _ _ _ h => h
    case hS4 => assumption
    case hy4 =>
      refine Or.inl ⟨by kernel_rfl, ?_⟩
      intro w' hSw
      (try dsimp only at hSw)
      go_simp
      (try rfl)
    (try simp only [List.getElem_toArray, List.getElem_cons_zero, Act.put, List.setIfInBounds_toArray, List.set_cons_zero, List.set_cons_succ])
    refine wpAnyH_take (i := 1) (oi := ?o5) (v := ?v5) ?hi5 ?hs5 ?hf5 ?hr5 ?hQ5 ?hy5 ?hS5 ?rest5
    case hi5 => rfl
    case hs5 => kernel_rfl
    case hf5 => kernel_rfl
    case hr5 => kernel_rfl
    case hQ5 => exact fun _ _ _ h => h
    case hS5 => assumption
    case hy5 =>
      refine Or.inl ⟨by kernel_rfl, ?_⟩
      intro w' hSw
      (try dsimp only at hSw)
      go_simp
      (try rfl)
    (try simp only [List.getElem_toArray, List.getElem_cons_succ, List.getElem_cons_zero, Act.put, List.setIfInBounds_toArray, List.set_cons_zero, List.set_cons_succ])
    refine wpAnyH_ready (rs := [2]) (by kernel_rfl) (by simp) ?_
    refine AllReadyH.cons rfl (fun K hK => ?_) AllReadyH.nil
    · go_simp
      refine (toTab T _ _ _ _ (TabRow.drew hR9) hlT.out.1 hlT.out.2.1 hlT.out.2.2.1 hlT.out.2.2.2.1).mono ?_
      rintro e wa9 ⟨⟨vsa9, va9, vb9, vc9, rfl, hoa9⟩, hBa9⟩
      refine hK.out _ _ ?_ (fun hHeld => ?_)
      · exact TwT.next hHeld hBa9
      clear hK K
      (try simp only [List.getElem_toArray, List.getElem_cons_succ, List.getElem_cons_zero, Act.put, List.setIfInBounds_toArray, List.set_cons_zero, List.set_cons_succ])
      refine wpAnyH_ready (rs := [3]) (by kernel_rfl) (by simp) ?_
      refine AllReadyH.cons rfl (fun K hK => ?_) AllReadyH.nil
      · go_simp
        refine (eqTab T _ _ _ _ _ _ _ ((TabRow.drew hX9).below hBa9) (hoa9.row hmT.out.1 hmT.out.2.1 hmT.out.2.2.1 hmT.out.2.2.2)).mono ?_
        rintro e wb9 ⟨rfl, hBb9⟩
        refine hK.out _ _ ?_ (fun hHeld => ?_)
        · exact TwT.next hHeld hBb9
        clear hK K
        (try simp only [List.getElem_toArray, List.getElem_cons_succ, List.getElem_cons_zero, Act.put, List.setIfInBounds_toArray, List.set_cons_zero, List.set_cons_succ])
        refine wpAnyH_take (i := 4) (oi := ?o6) (v := ?v6) ?hi6 ?hs6 ?hf6 ?hr6 ?hQ6 ?hy6 ?hS6 ?rest6
        case hi6 => rfl
        case hs6 => kernel_rfl
        case hf6 => kernel_rfl
        case hr6 => kernel_rfl
        case hQ6 => exact fun _ _ _ h => h
        case hS6 => assumption
        case hy6 =>
          refine Or.inl ⟨by kernel_rfl, ?_⟩
          intro w' hSw
          (try dsimp only at hSw)
          go_simp
          (try rfl)
        (try simp only [List.getElem_toArray, List.getElem_cons_succ, List.getElem_cons_zero, Act.put, List.setIfInBounds_toArray, List.set_cons_zero, List.set_cons_succ])
        refine wpAnyH_done (by kernel_rfl) ?_ _
        refine NoPanic.normal ?_
        go_wp2_with fail
        go_ret
        exact ⟨rfl, bt B05 (bt (below_dr9 hBa9) hBb9)⟩

end Go.Proofs.YticeagjonfifbaaGreatDoor
