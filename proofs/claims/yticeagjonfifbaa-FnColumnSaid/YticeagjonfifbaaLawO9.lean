/-
  The walks of the exact laws on tables; the program's contracts are hypotheses.
-/
import Derived.Test.YticeagjonfifbaaTabK
import Derived.Test.YticeagjonfifbaaTabC
namespace Go.Proofs.Yticeagjonfifbaa
open Go.RowKit

/-- What the program is to answer for a table and a column's number. -/
def ImplColumn : Prop := ∀ (T : Tab) (u1 u2 u3 : Value) (f : Int) (w : World), TabRow w T u1 u2 u3 → T.ns.length ≤ 1048576 → T.rs.length ≤ 1048576 → (∀ r ∈ T.rs, r.length ≤ 1048576) → T.ys.length ≤ 1048576 → (∀ p ∈ T.ns, p.length ≤ 9223372036854775807) → T.y.length ≤ 9223372036854775807 → -9223372036854775808 ≤ f → f ≤ 9223372036854775807 → Calls Try.prog 10 #[.agg #[u1, .string ⟨T.y.toArray⟩, u2, u3], .int .i64 f] w fun e w' => (∃ v, e = .returned v ∧ w'.ownsRow w.heap.size 3 1 v (colT T f).length (intCells (colT T f))) ∧ Below w.heap.size w w'
theorem colT_len (T : Tab) (f : Int) : (colT T f).length ≤ T.rs.length := by
  unfold colT
  split
  · simp
  · simp

set_option maxRecDepth 100000 in
set_option maxHeartbeats 16000000 in
theorem lawExColumn (hI : ImplColumn) (T : Tab) (u1 u2 u3 : Value) (f : Int) (w : World) (h : TabRow w T u1 u2 u3) (hnl : ∀ p ∈ T.ns, p.length ≤ 9223372036854775807) (hyl : T.y.length ≤ 9223372036854775807) (f0 : -9223372036854775808 ≤ f) (f1 : f ≤ 9223372036854775807) :
    Calls Try.prog 7 #[.agg #[u1, .string ⟨T.y.toArray⟩, u2, u3], .int .i64 f] w fun e w' => e = .returned (.bool true) ∧ Below w.heap.size w w' := by
  obtain ⟨a1, c1, a2, c2, a3, c3, rfl, rfl, rfl⟩ := h.form
  by_cases hov : 1048576 < szTab T
  · go_enter Try.func7, Try.ntmps7
    go_wp2_with fail
    refine (szTab_no T _ _ _ _ (h.below (bl_al w _)) hnl hyl 1048576 (by omega) hov).mono ?_
    rintro e w1 ⟨rfl, hB1⟩
    go_wp2_with fail
    go_ret
    exact ⟨rfl, bt (bl_al w _) hB1⟩
  · have hlT0 : szTab T ≤ 1048576 := by omega
    have hlT := Lib.hid (szTab_le hlT0)
    have hmT : Hid (T.ns.length ≤ 9223372036854775807 ∧ T.rs.length ≤ 9223372036854775807 ∧ (∀ r ∈ T.rs, r.length ≤ 9223372036854775807) ∧ T.ys.length ≤ 9223372036854775807) := Lib.hid ⟨Nat.le_trans hlT.out.1 (by omega), Nat.le_trans hlT.out.2.1 (by omega), fun r hr => Nat.le_trans (hlT.out.2.2.1 r hr) (by omega), Nat.le_trans hlT.out.2.2.2.1 (by omega)⟩
    obtain ⟨r, hr⟩ : ∃ r : Nat, 1048576 = szTab T + r := ⟨1048576 - szTab T, by omega⟩
    have hr0 : ¬ (r : Int) < 0 := by omega
    have HSZ := Lib.hid (szTab_ok T _ _ _ _ (h.below (bl_al w (.cells #[.slice a1 T.ns.length c1, .string ⟨T.y.toArray⟩, .slice a2 T.rs.length c2, .slice a3 T.ys.length c3] 35))) hnl 1048576 (by omega) r hr)
    have h0 := Lib.hid h
    obtain ⟨L, hL⟩ : ∃ L, colT T f = L := ⟨_, rfl⟩
    have hLl : L.length ≤ 1048576 := by
      have := colT_len T f
      rw [hL] at this
      have := hlT.out.2.1
      omega
    have HI : Hid (∀ (u1 u2 u3 : Value) (w : World), TabRow w T u1 u2 u3 → Calls Try.prog 10 #[.agg #[u1, .string ⟨T.y.toArray⟩, u2, u3], .int .i64 f] w fun e w' => (∃ v, e = .returned v ∧ w'.ownsRow w.heap.size 3 1 v L.length (intCells L)) ∧ Below w.heap.size w w') := Lib.hid (fun u1 u2 u3 w hw => by have := hI T u1 u2 u3 f w hw hlT.out.1 hlT.out.2.1 hlT.out.2.2.1 hlT.out.2.2.2.1 hnl hyl f0 f1; rwa [hL] at this)
    have HS : Hid (∀ (u1 u2 u3 : Value) (w : World), TabRow w T u1 u2 u3 → Calls Try.prog 12 #[.agg #[u1, .string ⟨T.y.toArray⟩, u2, u3], .int .i64 f] w fun e w' => (∃ v, e = .returned v ∧ w'.ownsRow w.heap.size 3 1 v L.length (intCells L)) ∧ Below w.heap.size w w') := Lib.hid (fun u1 u2 u3 w hw => by have := specColumn T u1 u2 u3 f w hw hlT.out.2.1; rwa [hL] at this)
    have hLr : L.length ≤ 9223372036854775807 := by omega
    obtain ⟨mk, hmk⟩ : ∃ m : Nat, 1 + T.ns.length + (T.rs.map List.length).sum + T.ys.length = m := ⟨_, rfl⟩
    have hmk0 : ¬ (mk : Int) < 0 := by omega
    have hml : 1 + T.ns.length + (T.rs.map List.length).sum ≤ 2097152 := by
      have h5 := hlT.out.2.2.2.2
      have e5 : szLI T.rs = (T.rs.map List.length).sum := rfl
      rw [e5] at h5
      omega
    have HMK : Hid (∀ (u1 u2 u3 : Value) (vs : List Value) (base : Nat) (w : World), TabOwn w base T vs u1 u2 u3 → base ≤ w.heap.size → ∀ hi : Nat, (∀ g, u1.ownBlock = some g → g < hi) → (∀ (j : Nat) u g, vs[j]? = some u → u.ownBlock = some g → g < hi) → (∀ g, u3.ownBlock = some g → g < hi) → Calls Try.prog 23 #[.agg #[u1, .string ⟨T.y.toArray⟩, u2, u3], .int .i64 1] w fun e w' => e = .returned (.int .i64 (mk : Int)) ∧ Below base w w' ∧ (∀ b, hi ≤ b → b < w.heap.size → w'.heap[b]? = w.heap[b]?)) := Lib.hid (fun u1 u2 u3 vs base w ho hb hi g1 g2 g3 => (markTabH T u1 u2 u3 vs base 1 w ho hb (by omega) hlT.out.1 hlT.out.2.1 hlT.out.2.2.2.1 hml hi g1 g2 g3).mono fun e w' ⟨he, _, h3, h4⟩ => ⟨by rw [he, hmk], h3, h4⟩)
    clear hr hov h hI hnl hyl hlT0 hL hmk hml
    go_enter Try.func7, Try.ntmps7
    go_wp2_with fail
    refine HSZ.out.mono ?_
    rintro e w1 ⟨rfl, hB1⟩
    have B01 := bt (bl_al w _) hB1
    have X1 := Lib.hid (blk_next (alloc_blk w #[.slice a1 T.ns.length c1, .string ⟨T.y.toArray⟩, .slice a2 T.rs.length c2, .slice a3 T.ys.length c3] 35) hB1)
    clear hB1 HSZ
    have ca0 := cell_blk X1.out 0
    have ca1 := cell_blk X1.out 1
    have ca2 := cell_blk X1.out 2
    have ca3 := cell_blk X1.out 3
    have la := blk_lt X1.out
    go_wp2_with fail
    refine (toTab T _ _ _ _ (h0.out.below B01) hlT.out.1 hlT.out.2.1 hlT.out.2.2.1 hlT.out.2.2.2.1).mono ?_
    rintro e w2 ⟨⟨vs2, v21, v22, v23, rfl, ho2⟩, B12⟩
    have R2 := Lib.hid (ho2.row hmT.out.1 hmT.out.2.1 hmT.out.2.2.1 hmT.out.2.2.2)
    have X2 := Lib.hid (blk_next X1.out B12)
    have B02 := Lib.hid (bt B01 B12)
    clear ca0 ca1 ca2 ca3 la
    clear ho2 B12 B01 X1
    go_wp2_with fail
    refine (HS.out v21 v22 v23 w2 R2.out).mono ?_
    rintro e w3 ⟨⟨vS, rfl, hoS⟩, B23⟩
    have RS := Lib.hid (intRow_of_owns hoS hLr)
    have X3 := Lib.hid (blk_next X2.out B23)
    have B03 := Lib.hid (bt B02.out B23)
    obtain ⟨sa, sc, rfl⟩ := owns_form hoS
    have RS0 := Lib.hid RS.out
    have X30 := Lib.hid X3.out
    clear B23 X2 B02 R2 hoS
    have ca0 := cell_blk X3.out 0
    have ca1 := cell_blk X3.out 1
    have ca2 := cell_blk X3.out 2
    have ca3 := cell_blk X3.out 3
    have la := blk_lt X3.out
    go_wp2_with fail
    refine (toTab T _ _ _ _ (h0.out.below B03.out) hlT.out.1 hlT.out.2.1 hlT.out.2.2.1 hlT.out.2.2.2.1).mono ?_
    rintro e w4 ⟨⟨vs4, v41, v42, v43, rfl, ho4⟩, B34⟩
    have R4 := Lib.hid (ho4.row hmT.out.1 hmT.out.2.1 hmT.out.2.2.1 hmT.out.2.2.2)
    have O4 := Lib.hid ho4
    have X4 := Lib.hid (blk_next X3.out B34)
    have RS4 := Lib.hid (RS.out.below B34)
    have B04 := Lib.hid (bt B03.out B34)
    have B34h := Lib.hid B34
    have hw34 : Hid (w3.heap.size ≤ w4.heap.size ∧ True) := Lib.hid ⟨B34.size, trivial⟩
    clear ca0 ca1 ca2 ca3 la
    clear ho4 B34 X3 RS
    obtain ⟨d1, k1, d2, k2, d3, k3, rfl, rfl, rfl⟩ := R4.out.form
    go_wp2_with fail
    have hA4 := bl_al w4 (.cells #[.slice d1 T.ns.length k1, .string ⟨T.y.toArray⟩, .slice d2 T.rs.length k2, .slice d3 T.ys.length k3] 28)
    refine (HI.out _ _ _ _ (R4.out.below hA4)).mono ?_
    rintro e w5 ⟨⟨vI, rfl, hoI⟩, B45⟩
    obtain ⟨ia, ic, rfl⟩ := owns_form hoI
    have BT5 := Lib.hid (bt hA4 B45)
    have OI := Lib.hid hoI
    have P5 := Lib.hid (blk_next (alloc_blk w4 #[.slice d1 T.ns.length k1, .string ⟨T.y.toArray⟩, .slice d2 T.rs.length k2, .slice d3 T.ys.length k3] 28) B45)
    have X5 := Lib.hid (blk_next X4.out BT5.out)
    have R5 := Lib.hid (R4.out.below BT5.out)
    have O5 := Lib.hid (O4.out.below BT5.out)
    have RS5 := Lib.hid (RS4.out.below BT5.out)
    have B05 := Lib.hid (bt B04.out BT5.out)
    have B35 := Lib.hid (bt B34h.out BT5.out)
    have hsz5 : w4.heap.size + 1 ≤ w5.heap.size := by have := B45.size; simpa using this
    obtain ⟨b5, hb5⟩ : ∃ b, (w4.alloc (.cells #[.slice d1 T.ns.length k1, .string ⟨T.y.toArray⟩, .slice d2 T.rs.length k2, .slice d3 T.ys.length k3] 28)).heap.size = b := ⟨_, rfl⟩
    have hb51 : b5 = w4.heap.size + 1 := by rw [← hb5]; simp
    rw [hb5] at OI
    have H4 : Hid ((∀ g, (Value.slice d1 T.ns.length k1).ownBlock = some g → g < b5) ∧ (∀ (j : Nat) u g, vs4[j]? = some u → u.ownBlock = some g → g < b5) ∧ (∀ g, (Value.slice d3 T.ys.length k3).ownBlock = some g → g < b5)) := Lib.hid ⟨fun g hg => by have := (O4.out.1.lt g hg).2; omega, fun j u g hu hg => by have := (O4.out.2.2.1.lt hu hg).2; omega, fun g hg => by have := (O4.out.2.2.2.1.lt g hg).2; omega⟩
    clear hoI B45 hA4 hb5 X4 R4 O4 RS4 B04 B34h BT5
    go_wp2_with fail
    refine (eqI _ _ _ L (intRow_of_owns OI.out hLr) RS5.out).mono ?_
    rintro e w6 ⟨rfl, z6, hz6⟩
    have B56 : Below w5.heap.size w5 w6 := hz6 ▸ below_drewN2 (Below.refl _ _) z6
    have OI6 := Lib.hid (owns_bl OI.out B56)
    have hP9 := blk_next P5.out B56
    have hA9 := blk_next X5.out B56
    have hX9 := R5.out.below B56
    have O6 := Lib.hid (O5.out.below B56)
    have RS6 := Lib.hid (RS5.out.below B56)
    have B06 := Lib.hid (bt B05.out B56)
    have B36 := Lib.hid (bt B35.out B56)
    have hR9 := h0.out.below B06.out
    clear hz6 OI P5 X5 R5 O5 RS5 B05 B35
    have hsz6 := B56.size
    clear B56
    go_wp2_with fail
    have hS9 : TwT w6 w4.heap.size w.heap.size (.slice d1 T.ns.length k1) (.string ⟨T.y.toArray⟩) (.slice d2 T.rs.length k2) (.slice d3 T.ys.length k3) (.slice a1 T.ns.length c1) (.string ⟨T.y.toArray⟩) (.slice a2 T.rs.length c2) (.slice a3 T.ys.length c3) w6.drew := TwT.mk (hP9) (hA9) (Below.refl _ _).drew
    refine wp_region_noPanic ?_
    refine wp_region_held_drew (S := (TwT w6 w4.heap.size w.heap.size (.slice d1 T.ns.length k1) (.string ⟨T.y.toArray⟩) (.slice d2 T.rs.length k2) (.slice d3 T.ys.length k3) (.slice a1 T.ns.length c1) (.string ⟨T.y.toArray⟩) (.slice a2 T.rs.length c2) (.slice a3 T.ys.length c3))) (by kernel_rfl) hS9 (fun hHeld => ?_)
    clear hS9
    refine wpAnyH_take (i := 0) (oi := ?o1) (v := ?v1) ?hi1 ?hs1 ?hf1 ?hr1 ?hQ1 ?hy1 ?hS1 ?rest1
    case hi1 => rfl
    case hs1 => kernel_rfl
    case hf1 => kernel_rfl
    case hr1 => kernel_rfl
    case hQ1 => exact fun _ _ _ h => h
    case hS1 => assumption
    case hy1 =>
      refine Or.inl ⟨by kernel_rfl, ?_⟩
      intro w' hSw
      (try dsimp only at hSw)
      go_simp
      (try rfl)
    (try simp only [List.getElem_toArray, List.getElem_cons_zero, Act.put, List.setIfInBounds_toArray, List.set_cons_zero, List.set_cons_succ])
    refine wpAnyH_take (i := 1) (oi := ?o2) (v := ?v2) ?hi2 ?hs2 ?hf2 ?hr2 ?hQ2 ?hy2 ?hS2 ?rest2
    case hi2 => rfl
    case hs2 => kernel_rfl
    case hf2 => kernel_rfl
    case hr2 => kernel_rfl
    case hQ2 => exact fun _ _ _ h => h
    case hS2 => assumption
    case hy2 =>
      refine Or.inl ⟨by kernel_rfl, ?_⟩
      intro w' hSw
      (try dsimp only at hSw)
      go_simp
      (try rfl)
    (try simp only [List.getElem_toArray, List.getElem_cons_succ, List.getElem_cons_zero, Act.put, List.setIfInBounds_toArray, List.set_cons_zero, List.set_cons_succ])
    refine wpAnyH_ready (rs := [2]) (by kernel_rfl) (by simp) ?_
    refine AllReadyH.cons rfl (fun K hK => ?_) AllReadyH.nil
    · go_simp
      refine (toTab T _ _ _ _ (TabRow.drew hR9) hlT.out.1 hlT.out.2.1 hlT.out.2.2.1 hlT.out.2.2.2.1).mono ?_
      rintro e wa9 ⟨⟨vsa9, va9, vb9, vc9, rfl, hoa9⟩, hBa9⟩
      refine hK.out _ _ ?_ (fun hHeld => ?_)
      · exact TwT.next hHeld hBa9
      clear hK K
      (try simp only [List.getElem_toArray, List.getElem_cons_succ, List.getElem_cons_zero, Act.put, List.setIfInBounds_toArray, List.set_cons_zero, List.set_cons_succ])
      refine wpAnyH_ready (rs := [3]) (by kernel_rfl) (by simp) ?_
      refine AllReadyH.cons rfl (fun K hK => ?_) AllReadyH.nil
      · go_simp
        refine (eqTab T _ _ _ _ _ _ _ ((TabRow.drew hX9).below hBa9) (hoa9.row hmT.out.1 hmT.out.2.1 hmT.out.2.2.1 hmT.out.2.2.2)).mono ?_
        rintro e wb9 ⟨rfl, hBb9⟩
        refine hK.out _ _ ?_ (fun hHeld => ?_)
        · exact TwT.next hHeld hBb9
        clear hK K
        (try simp only [List.getElem_toArray, List.getElem_cons_succ, List.getElem_cons_zero, Act.put, List.setIfInBounds_toArray, List.set_cons_zero, List.set_cons_succ])
        refine wpAnyH_take (i := 4) (oi := ?o3) (v := ?v3) ?hi3 ?hs3 ?hf3 ?hr3 ?hQ3 ?hy3 ?hS3 ?rest3
        case hi3 => rfl
        case hs3 => kernel_rfl
        case hf3 => kernel_rfl
        case hr3 => kernel_rfl
        case hQ3 => exact fun _ _ _ h => h
        case hS3 => assumption
        case hy3 =>
          refine Or.inl ⟨by kernel_rfl, ?_⟩
          intro w' hSw
          (try dsimp only at hSw)
          go_simp
          (try rfl)
        (try simp only [List.getElem_toArray, List.getElem_cons_succ, List.getElem_cons_zero, Act.put, List.setIfInBounds_toArray, List.set_cons_zero, List.set_cons_succ])
        refine wpAnyH_done (by kernel_rfl) ?_ _
        refine NoPanic.normal ?_
        have BT7 := Lib.hid (bt (below_dr9 hBa9) hBb9)
        have X7 := Lib.hid (blk_next hA9 BT7.out)
        have P7 := Lib.hid (blk_next hP9 BT7.out)
        have O7 := Lib.hid (O6.out.below BT7.out)
        have OI7 := Lib.hid (owns_bl OI6.out BT7.out)
        have RS7 := Lib.hid (RS6.out.below BT7.out)
        have B07 := Lib.hid (bt B06.out BT7.out)
        have B37 := Lib.hid (bt B36.out BT7.out)
        have hsz7 := BT7.out.size
        clear hBa9 hBb9 hoa9 hHeld BT7 hA9 hP9 hX9 hR9 O6 OI6 RS6 B06 B36
        obtain ⟨w7, hw7⟩ : ∃ x, x = wb9 := ⟨_, rfl⟩
        subst hw7
        have cp0 := cell_blk P7.out 0
        have cp1 := cell_blk P7.out 1
        have cp2 := cell_blk P7.out 2
        have cp3 := cell_blk P7.out 3
        have lp := blk_lt P7.out
        go_wp2_with fail
        refine (HMK.out _ _ _ vs4 w3.heap.size _ O7.out (by have := B37.out.size; omega) b5 H4.out.1 H4.out.2.1 H4.out.2.2).mono ?_
        rintro e w8 ⟨rfl, hM8, hK8⟩
        have hsz8 : w7.heap.size ≤ w8.heap.size := hM8.size
        have OI8 := Lib.hid (owns_same (w' := w8) OI7.out (fun g hg => hK8 g (OI7.out.lt g hg).1 (OI7.out.lt g hg).2))
        have B38 := Lib.hid (B37.out.trans hM8)
        have RS8 := Lib.hid (RS0.out.below B38.out)
        have X8 := Lib.hid ((hM8.block _ (by have := B03.out.size; have := blk_lt X30.out; omega)).trans X7.out)
        have B08 := Lib.hid (B07.out.trans (hM8.mono B03.out.size))
        clear cp0 cp1 cp2 cp3 lp
        clear hM8 hK8 X7 P7 O7 OI7 RS7 B07 B37
        go_wp2_with fail
        refine (eqI _ _ _ L (intRow_of_owns OI8.out hLr) RS8.out).mono ?_
        rintro e w10 ⟨rfl, z10, hz10⟩
        have B8a : Below w8.heap.size w8 w10 := hz10 ▸ below_drewN2 (Below.refl _ _) z10
        have OI10 := Lib.hid (owns_bl OI8.out B8a)
        have hsz10 : w8.heap.size ≤ w10.heap.size := B8a.size
        have RS10 := Lib.hid (RS8.out.below B8a)
        have X10 := Lib.hid (blk_next X8.out B8a)
        have B0a := Lib.hid (bt B08.out B8a)
        have B3a := Lib.hid (bt B38.out B8a)
        clear hz10 B8a OI8 RS8 X8 B08 B38
        go_wp2_with fail
        refine (markI _ b5 L.length 1 _ _ OI10.out (by omega) (by omega)).mono ?_
        rintro e w11 ⟨rfl, hM11, hg11⟩
        have hB11 : Below b5 w10 w11 := (Below.refl b5 w10).grown hg11 (by have := B3a.out.size; have := hw34.out.1; omega) (fun g hg => (OI10.out.lt g hg).1)
        have M11 := Lib.hid (intRow_of_owns (zs := marksI 1 L.length) (by rw [marksI_len]; exact hM11) (by rw [marksI_len]; exact hLr))
        have B311 := Lib.hid (B3a.out.trans (hB11.mono (by have := hw34.out.1; omega)))
        have RS11 := Lib.hid (RS0.out.below B311.out)
        have X11 := Lib.hid ((hB11.block _ (by have := B03.out.size; have := blk_lt X30.out; have := hw34.out.1; omega)).trans X10.out)
        have B011 := Lib.hid (B0a.out.trans (hB11.mono (by have := B03.out.size; have := hw34.out.1; omega)))
        clear hM11 hg11 hB11 OI10 RS10 X10 B0a B3a
        go_wp2_with fail
        refine (heldIB _ _ L.length 1 M11.out (by omega) (by omega)).mono ?_
        rintro e w12 ⟨rfl, hB12⟩
        have M12 := Lib.hid (M11.out.below hB12)
        have RS12 := Lib.hid (RS11.out.below hB12)
        have X12 := Lib.hid (blk_next X11.out hB12)
        have B012 := Lib.hid (bt B011.out hB12)
        clear hB12 M11 RS11 X11 B011 B311
        have ca0 := cell_blk X12.out 0
        have ca1 := cell_blk X12.out 1
        have ca2 := cell_blk X12.out 2
        have ca3 := cell_blk X12.out 3
        have la := blk_lt X12.out
        go_wp2_with fail
        refine (toTab T _ _ _ _ (h0.out.below B012.out) hlT.out.1 hlT.out.2.1 hlT.out.2.2.1 hlT.out.2.2.2.1).mono ?_
        rintro e w13 ⟨⟨vs13, v131, v132, v133, rfl, ho13⟩, hB13⟩
        have R13 := Lib.hid (ho13.row hmT.out.1 hmT.out.2.1 hmT.out.2.2.1 hmT.out.2.2.2)
        have M13 := Lib.hid (M12.out.below hB13)
        have RS13 := Lib.hid (RS12.out.below hB13)
        have B013 := Lib.hid (bt B012.out hB13)
        clear ca0 ca1 ca2 ca3 la
        clear ho13 hB13 M12 RS12 X12 B012
        go_wp2_with fail
        refine (HI.out _ _ _ _ R13.out).mono ?_
        rintro e w14 ⟨⟨vH, rfl, hoH⟩, hB14⟩
        have RH := Lib.hid (intRow_of_owns hoH hLr)
        obtain ⟨ja, jc, rfl⟩ := owns_form hoH
        have M14 := Lib.hid (M13.out.below hB14)
        have RS14 := Lib.hid (RS13.out.below hB14)
        have B014 := Lib.hid (bt B013.out hB14)
        clear hoH hB14 M13 RS13 R13 B013
        go_wp2_with fail
        refine (eqI _ _ _ L RH.out RS14.out).mono ?_
        rintro e w15 ⟨rfl, z15, hz15⟩
        have hB15 : Below w14.heap.size w14 w15 := hz15 ▸ below_drewN2 (Below.refl _ _) z15
        have M15 := Lib.hid (M14.out.below hB15)
        have B015 := Lib.hid (bt B014.out hB15)
        clear hz15 hB15 M14 RS14 RH B014
        go_wp2_with fail
        refine (heldIB _ _ L.length 1 M15.out (by omega) (by omega)).mono ?_
        rintro e w16 ⟨rfl, hB16⟩
        go_wp2_with fail
        go_ret
        exact ⟨rfl, bt B015.out hB16⟩

end Go.Proofs.Yticeagjonfifbaa
