/-
  The walks of the exact laws on grids; the program's contracts are hypotheses.
-/
import Derived.Test.YtgknkjiifcnkpaaGrdV
import Derived.Test.YtgknkjiifcnkpaaPk3
namespace Go.Proofs.Ytgknkjiifcnkpaa
open Go.RowKit

/-- Two boxes of two cells. -/
abbrev TgT (W : World) (P Q : Nat) (p1 p2 q1 q2 : Value) (w' : World) : Prop := w'.cell? ⟨P, 0, none⟩ = some p1 ∧ w'.cell? ⟨P, 1, none⟩ = some p2 ∧ w'.cell? ⟨Q, 0, none⟩ = some q1 ∧ w'.cell? ⟨Q, 1, none⟩ = some q2 ∧ Below W.heap.size W w'
theorem TgT.mk {W w : World} {P Q : Nat} {T1 T2 : TypeId} {p1 p2 q1 q2 : Value} (h1 : w.heap[P]? = some (.cells #[p1, p2] T1 (0, 0))) (h2 : w.heap[Q]? = some (.cells #[q1, q2] T2 (0, 0))) (hB : Below W.heap.size W w) : TgT W P Q p1 p2 q1 q2 w :=
  ⟨cell_blk h1 0, cell_blk h1 1, cell_blk h2 0, cell_blk h2 1, hB⟩
theorem TgT.next {W w w' : World} {P Q : Nat} {p1 p2 q1 q2 : Value} (h : TgT W P Q p1 p2 q1 q2 w) (hB : Below w.heap.size w w') : TgT W P Q p1 p2 q1 q2 w' := by
  obtain ⟨a1, a2, b1, b2, h9⟩ := h
  have k : ∀ {p : Addr} {v : Value}, w.cell? p = some v → w'.cell? p = some v := fun h => (hB.cell (World.block_lt_of_cell? w _ h)).trans h
  exact ⟨k a1, k a2, k b1, k b2, bt h9 hB⟩
theorem GrdRow.drew {w : World} {G : Grd} {u1 u2 : Value} (h : GrdRow w G u1 u2) : GrdRow w.drew G u1 u2 := h

/-- The rows of a grid. -/
def rowsIn (G : Grd) : Nat := (G.bs.headD []).length
def ImplRowsIn : Prop := ∀ (G : Grd) (u1 u2 : Value) (w : World), GrdRow w G u1 u2 → szGr G ≤ 1048576 → Calls Try.prog 28 #[.agg #[u1, u2]] w fun e w' => e = .returned (.int .i64 (rowsIn G : Int)) ∧ Below w.heap.size w w'
def ImplGridOk (ok : Grd → Bool) : Prop := ∀ (G : Grd) (u1 u2 : Value) (w : World), GrdRow w G u1 u2 → szGr G ≤ 1048576 → Calls Try.prog 26 #[.agg #[u1, u2]] w fun e w' => e = .returned (.bool (ok G)) ∧ Below w.heap.size w w'
def SpecGridOk (ok : Grd → Bool) : Prop := ∀ (G : Grd) (u1 u2 : Value) (w : World), GrdRow w G u1 u2 → szGr G ≤ 1048576 → Calls Try.prog 27 #[.agg #[u1, u2]] w fun e w' => e = .returned (.bool (ok G)) ∧ Below w.heap.size w w'

set_option maxRecDepth 100000 in
theorem specRowsIn (G : Grd) (u1 u2 : Value) (w : World) (h : GrdRow w G u1 u2) :
    Calls Try.prog 40 #[.agg #[u1, u2]] w fun e w' => e = .returned (.int .i64 (rowsIn G : Int)) ∧ Below w.heap.size w w' := by
  obtain ⟨h1, h2⟩ := h
  obtain ⟨a1, c1, rfl, _⟩ := iiRow_form h1
  unfold rowsIn
  clear h1
  by_cases h0 : G.bs = []
  · obtain ⟨a2, c2, rfl, _⟩ := iiRow_form h2
    rw [h0]
    have hA := bl_al w (.cells #[.slice a1 G.cs.length c1, .slice a2 ([] : List (List Int)).length c2] 38)
    have hx := alloc_blk w #[.slice a1 G.cs.length c1, .slice a2 ([] : List (List Int)).length c2] 38
    have p0 := cell_blk hx 0
    have p1 := cell_blk hx 1
    have lp := blk_lt hx
    clear hx h2 h0
    go_enter Try.func40, Try.ntmps40
    go_wp2_with fail
    go_ret
    exact ⟨rfl, hA⟩
  · obtain ⟨L0, L, hg⟩ : ∃ L0 L, G.bs = L0 :: L := by
      cases e : G.bs with
      | nil => exact absurd e h0
      | cons a l => exact ⟨a, l, rfl⟩
    rcases h2 with ⟨e, _⟩ | ⟨b, off, c, rfl, hl1, hl2, hc⟩
    · exact absurd e h0
    obtain ⟨u, hu, hru⟩ := hc 0 L0 (by rw [hg]; rfl)
    obtain ⟨a8, c8, rfl, _⟩ := intRow_form hru
    rw [show (G.bs.headD []).length = L0.length by rw [hg]; rfl]
    have hn : 0 < G.bs.length := by rw [hg]; simp
    generalize G.bs.length = n at *
    have hgt : (0 : Int) < (n : Int) := by omega
    have hgb : ((n : Int) == 0) = false := beq_eq_false_iff_ne.2 (by omega)
    have hA := bl_al w (.cells #[.slice a1 G.cs.length c1, .slice (some ⟨b, off, none⟩) n c] 38)
    have hx := alloc_blk w #[.slice a1 G.cs.length c1, .slice (some ⟨b, off, none⟩) n c] 38
    have hu1 := (hA.cell (World.block_lt_of_cell? w _ hu)).trans hu
    simp only [Nat.add_zero] at hu1
    have p0 := cell_blk hx 0
    have p1 := cell_blk hx 1
    have lp := blk_lt hx
    clear hx hc hru hg hu h0 hl1 hl2
    go_enter Try.func40, Try.ntmps40
    go_wp2_with fail
    go_ret
    exact ⟨rfl, hA⟩
set_option maxRecDepth 100000 in
set_option maxHeartbeats 8000000 in
theorem lawExRowsIn (hI : ImplRowsIn) (G : Grd) (u1 u2 : Value) (w : World) (h : GrdRow w G u1 u2) :
    Calls Try.prog 9 #[.agg #[u1, u2]] w fun e w' => e = .returned (.bool true) ∧ Below w.heap.size w w' := by
  obtain ⟨a1, c1, a2, c2, rfl, rfl⟩ := h.form
  by_cases hov : 1048576 < szGr G
  · go_enter Try.func9, Try.ntmps9
    go_wp2_with fail
    refine (szGrid_no G _ _ _ (h.below (bl_al w _)) 1048576 (by omega) hov).mono ?_
    rintro e w1 ⟨rfl, hB1⟩
    go_wp2_with fail
    go_ret
    exact ⟨rfl, bt (bl_al w _) hB1⟩
  · have hlG : szGr G ≤ 1048576 := by omega
    obtain ⟨r, hr⟩ : ∃ r : Nat, 1048576 = szGr G + r := ⟨1048576 - szGr G, by omega⟩
    have hr0 : ¬ (r : Int) < 0 := by omega
    have HSZ := Lib.hid (szGrid_ok G _ _ _ (h.below (bl_al w (.cells #[.slice a1 G.cs.length c1, .slice a2 G.bs.length c2] 52))) 1048576 (by omega) r hr)
    have h0 := Lib.hid h
    clear hr hov h
    go_enter Try.func9, Try.ntmps9
    go_wp2_with fail
    refine HSZ.out.mono ?_
    rintro e w1 ⟨rfl, hB1⟩
    have B01 := bt (bl_al w _) hB1
    have X1 := Lib.hid (blk_next (alloc_blk w #[.slice a1 G.cs.length c1, .slice a2 G.bs.length c2] 52) hB1)
    clear hB1 HSZ
    have ca0 := cell_blk X1.out 0
    have ca1 := cell_blk X1.out 1
    have la := blk_lt X1.out
    go_wp2_with fail
    refine (toGr G _ _ _ (h0.out.below B01) hlG).mono ?_
    rintro e w2 ⟨⟨v21, v22, rfl, ho2⟩, B12⟩
    have R2 := Lib.hid (ho2.row hlG)
    have X2 := Lib.hid (blk_next X1.out B12)
    have B02 := Lib.hid (bt B01 B12)
    clear ca0 ca1 la
    clear ho2 B12 B01 X1
    go_wp2_with fail
    refine (specRowsIn G _ _ w2 R2.out).mono ?_
    rintro e w3 ⟨rfl, B23⟩
    have X3 := Lib.hid (blk_next X2.out B23)
    have B03 := Lib.hid (bt B02.out B23)
    clear B23 X2 B02 R2
    have ca0 := cell_blk X3.out 0
    have ca1 := cell_blk X3.out 1
    have la := blk_lt X3.out
    go_wp2_with fail
    refine (toGr G _ _ _ (h0.out.below B03.out) hlG).mono ?_
    rintro e w4 ⟨⟨v41, v42, rfl, ho4⟩, B34⟩
    have R4 := Lib.hid (ho4.row hlG)
    have X4 := Lib.hid (blk_next X3.out B34)
    have B04 := Lib.hid (bt B03.out B34)
    clear ca0 ca1 la
    clear ho4 B34 B03 X3
    obtain ⟨d1, k1, d2, k2, rfl, rfl⟩ := R4.out.form
    go_wp2_with fail
    have hA4 := bl_al w4 (.cells #[.slice d1 G.cs.length k1, .slice d2 G.bs.length k2] 38)
    refine (hI G _ _ _ (R4.out.below hA4) hlG).mono ?_
    rintro e w5 ⟨rfl, B45⟩
    have hP9 := blk_next (alloc_blk w4 #[.slice d1 G.cs.length k1, .slice d2 G.bs.length k2] 38) B45
    have hA9 := blk_next (blk_al X4.out _) B45
    have hX9 := (R4.out.below hA4).below B45
    have B05 := bt (bt B04.out hA4) B45
    have hR9 := h0.out.below B05
    clear X4 B04 R4 hA4 B45
    go_wp2_with fail
    have hS9 : TgT w5 w4.heap.size w.heap.size (.slice d1 G.cs.length k1) (.slice d2 G.bs.length k2) (.slice a1 G.cs.length c1) (.slice a2 G.bs.length c2) w5.drew := TgT.mk (hP9) (hA9) (Below.refl _ _).drew
    refine wp_region_noPanic ?_
    refine wp_region_held_drew (S := (TgT w5 w4.heap.size w.heap.size (.slice d1 G.cs.length k1) (.slice d2 G.bs.length k2) (.slice a1 G.cs.length c1) (.slice a2 G.bs.length c2))) (by kernel_rfl) hS9 (fun hHeld => ?_)
    clear hS9
    refine wpAnyH_take (i := 0) (oi := ?o1) (v := ?v1) ?hi1 ?hs1 ?hf1 ?hr1 ?hQ1 ?hy1 ?hS1 ?rest1
    case hi1 => rfl
    case hs1 => kernel_rfl
    case hf1 => kernel_rfl
    case hr1 => kernel_rfl
    case hQ1 => exact fun _ _ _ h => h
    case hS1 => assumption
    case hy1 =>
      refine Or.inl ⟨by kernel_rfl, ?_⟩
      intro w' hSw
      (try dsimp only at hSw)
      go_simp
      (try rfl)
    (try simp only [List.getElem_toArray, List.getElem_cons_zero, Act.put, List.setIfInBounds_toArray, List.set_cons_zero, List.set_cons_succ])
    refine wpAnyH_take (i := 1) (oi := ?o2) (v := ?v2) ?hi2 ?hs2 ?hf2 ?hr2 ?hQ2 ?hy2 ?hS2 ?rest2
    case hi2 => rfl
    case hs2 => kernel_rfl
    case hf2 => kernel_rfl
    case hr2 => kernel_rfl
    case hQ2 => exact fun _ _ _ h => h
    case hS2 => assumption
    case hy2 =>
      refine Or.inl ⟨by kernel_rfl, ?_⟩
      intro w' hSw
      (try dsimp only at hSw)
      go_simp
      (try rfl)
    (try simp only [List.getElem_toArray, List.getElem_cons_succ, List.getElem_cons_zero, Act.put, List.setIfInBounds_toArray, List.set_cons_zero, List.set_cons_succ])
    refine wpAnyH_ready (rs := [2]) (by kernel_rfl) (by simp) ?_
    refine AllReadyH.cons rfl (fun K hK => ?_) AllReadyH.nil
    · go_simp
      refine (toGr G _ _ _ (GrdRow.drew hR9) hlG).mono ?_
      rintro e wa9 ⟨⟨va9, vb9, rfl, hoa9⟩, hBa9⟩
      refine hK.out _ _ ?_ (fun hHeld => ?_)
      · exact TgT.next hHeld hBa9
      clear hK K
      (try simp only [List.getElem_toArray, List.getElem_cons_succ, List.getElem_cons_zero, Act.put, List.setIfInBounds_toArray, List.set_cons_zero, List.set_cons_succ])
      refine wpAnyH_ready (rs := [3]) (by kernel_rfl) (by simp) ?_
      refine AllReadyH.cons rfl (fun K hK => ?_) AllReadyH.nil
      · go_simp
        refine (eqGr G _ _ _ _ _ ((GrdRow.drew hX9).below hBa9) (hoa9.row hlG)).mono ?_
        rintro e wb9 ⟨rfl, hBb9⟩
        refine hK.out _ _ ?_ (fun hHeld => ?_)
        · exact TgT.next hHeld hBb9
        clear hK K
        (try simp only [List.getElem_toArray, List.getElem_cons_succ, List.getElem_cons_zero, Act.put, List.setIfInBounds_toArray, List.set_cons_zero, List.set_cons_succ])
        refine wpAnyH_take (i := 4) (oi := ?o3) (v := ?v3) ?hi3 ?hs3 ?hf3 ?hr3 ?hQ3 ?hy3 ?hS3 ?rest3
        case hi3 => rfl
        case hs3 => kernel_rfl
        case hf3 => kernel_rfl
        case hr3 => kernel_rfl
        case hQ3 => exact fun _ _ _ h => h
        case hS3 => assumption
        case hy3 =>
          refine Or.inl ⟨by kernel_rfl, ?_⟩
          intro w' hSw
          (try dsimp only at hSw)
          go_simp
          (try rfl)
        (try simp only [List.getElem_toArray, List.getElem_cons_succ, List.getElem_cons_zero, Act.put, List.setIfInBounds_toArray, List.set_cons_zero, List.set_cons_succ])
        refine wpAnyH_done (by kernel_rfl) ?_ _
        refine NoPanic.normal ?_
        go_wp2_with fail
        go_ret
        exact ⟨rfl, bt B05 (bt (below_dr9 hBa9) hBb9)⟩

set_option maxRecDepth 100000 in
set_option maxHeartbeats 8000000 in
theorem lawExGridOk (ok : Grd → Bool) (hI : ImplGridOk ok) (hS : SpecGridOk ok) (G : Grd) (u1 u2 : Value) (w : World) (h : GrdRow w G u1 u2) :
    Calls Try.prog 8 #[.agg #[u1, u2]] w fun e w' => e = .returned (.bool true) ∧ Below w.heap.size w w' := by
  obtain ⟨a1, c1, a2, c2, rfl, rfl⟩ := h.form
  by_cases hov : 1048576 < szGr G
  · go_enter Try.func8, Try.ntmps8
    go_wp2_with fail
    refine (szGrid_no G _ _ _ (h.below (bl_al w _)) 1048576 (by omega) hov).mono ?_
    rintro e w1 ⟨rfl, hB1⟩
    go_wp2_with fail
    go_ret
    exact ⟨rfl, bt (bl_al w _) hB1⟩
  · have hlG : szGr G ≤ 1048576 := by omega
    obtain ⟨r, hr⟩ : ∃ r : Nat, 1048576 = szGr G + r := ⟨1048576 - szGr G, by omega⟩
    have hr0 : ¬ (r : Int) < 0 := by omega
    have HSZ := Lib.hid (szGrid_ok G _ _ _ (h.below (bl_al w (.cells #[.slice a1 G.cs.length c1, .slice a2 G.bs.length c2] 52))) 1048576 (by omega) r hr)
    have h0 := Lib.hid h
    obtain ⟨sb, hsb⟩ : ∃ sb, ok G = sb := ⟨_, rfl⟩
    have hbb : (sb != sb) = false := by cases sb <;> rfl
    have HI2 : Hid (∀ (u1 u2 : Value) (w : World), GrdRow w G u1 u2 → Calls Try.prog 26 #[.agg #[u1, u2]] w fun e w' => e = .returned (.bool sb) ∧ Below w.heap.size w w') := Lib.hid (fun u1 u2 w hw => by have := hI G u1 u2 w hw hlG; rwa [hsb] at this)
    have HS2 : Hid (∀ (u1 u2 : Value) (w : World), GrdRow w G u1 u2 → Calls Try.prog 27 #[.agg #[u1, u2]] w fun e w' => e = .returned (.bool sb) ∧ Below w.heap.size w w') := Lib.hid (fun u1 u2 w hw => by have := hS G u1 u2 w hw hlG; rwa [hsb] at this)
    clear hsb hI hS
    clear hr hov h
    go_enter Try.func8, Try.ntmps8
    go_wp2_with fail
    refine HSZ.out.mono ?_
    rintro e w1 ⟨rfl, hB1⟩
    have B01 := bt (bl_al w _) hB1
    have X1 := Lib.hid (blk_next (alloc_blk w #[.slice a1 G.cs.length c1, .slice a2 G.bs.length c2] 52) hB1)
    clear hB1 HSZ
    have ca0 := cell_blk X1.out 0
    have ca1 := cell_blk X1.out 1
    have la := blk_lt X1.out
    go_wp2_with fail
    refine (toGr G _ _ _ (h0.out.below B01) hlG).mono ?_
    rintro e w2 ⟨⟨v21, v22, rfl, ho2⟩, B12⟩
    have R2 := Lib.hid (ho2.row hlG)
    have X2 := Lib.hid (blk_next X1.out B12)
    have B02 := Lib.hid (bt B01 B12)
    clear ca0 ca1 la
    clear ho2 B12 B01 X1
    go_wp2_with fail
    refine (HS2.out _ _ w2 R2.out).mono ?_
    rintro e w3 ⟨rfl, B23⟩
    have X3 := Lib.hid (blk_next X2.out B23)
    have B03 := Lib.hid (bt B02.out B23)
    clear B23 X2 B02 R2
    have ca0 := cell_blk X3.out 0
    have ca1 := cell_blk X3.out 1
    have la := blk_lt X3.out
    go_wp2_with fail
    refine (toGr G _ _ _ (h0.out.below B03.out) hlG).mono ?_
    rintro e w4 ⟨⟨v41, v42, rfl, ho4⟩, B34⟩
    have R4 := Lib.hid (ho4.row hlG)
    have X4 := Lib.hid (blk_next X3.out B34)
    have B04 := Lib.hid (bt B03.out B34)
    clear ca0 ca1 la
    clear ho4 B34 B03 X3
    obtain ⟨d1, k1, d2, k2, rfl, rfl⟩ := R4.out.form
    go_wp2_with fail
    have hA4 := bl_al w4 (.cells #[.slice d1 G.cs.length k1, .slice d2 G.bs.length k2] 38)
    refine (HI2.out _ _ _ (R4.out.below hA4)).mono ?_
    rintro e w5 ⟨rfl, B45⟩
    have hP9 := blk_next (alloc_blk w4 #[.slice d1 G.cs.length k1, .slice d2 G.bs.length k2] 38) B45
    have hA9 := blk_next (blk_al X4.out _) B45
    have hX9 := (R4.out.below hA4).below B45
    have B05 := bt (bt B04.out hA4) B45
    have hR9 := h0.out.below B05
    clear X4 B04 R4 hA4 B45
    go_wp2_with fail
    have hS9 : TgT w5 w4.heap.size w.heap.size (.slice d1 G.cs.length k1) (.slice d2 G.bs.length k2) (.slice a1 G.cs.length c1) (.slice a2 G.bs.length c2) w5.drew := TgT.mk (hP9) (hA9) (Below.refl _ _).drew
    refine wp_region_noPanic ?_
    refine wp_region_held_drew (S := (TgT w5 w4.heap.size w.heap.size (.slice d1 G.cs.length k1) (.slice d2 G.bs.length k2) (.slice a1 G.cs.length c1) (.slice a2 G.bs.length c2))) (by kernel_rfl) hS9 (fun hHeld => ?_)
    clear hS9
    refine wpAnyH_take (i := 0) (oi := ?o4) (v := ?v4) ?hi4 ?hs4 ?hf4 ?hr4 ?hQ4 ?hy4 ?hS4 ?rest4
    case hi4 => rfl
    case hs4 => kernel_rfl
    case hf4 => kernel_rfl
    case hr4 => kernel_rfl
    case hQ4 => exact fun _ _ _ h => h
    case hS4 => assumption
    case hy4 =>
      refine Or.inl ⟨by kernel_rfl, ?_⟩
      intro w' hSw
      (try dsimp only at hSw)
      go_simp
      (try rfl)
    (try simp only [List.getElem_toArray, List.getElem_cons_zero, Act.put, List.setIfInBounds_toArray, List.set_cons_zero, List.set_cons_succ])
    refine wpAnyH_take (i := 1) (oi := ?o5) (v := ?v5) ?hi5 ?hs5 ?hf5 ?hr5 ?hQ5 ?hy5 ?hS5 ?rest5
    case hi5 => rfl
    case hs5 => kernel_rfl
    case hf5 => kernel_rfl
    case hr5 => kernel_rfl
    case hQ5 => exact fun _ _ _ h => h
    case hS5 => assumption
    case hy5 =>
      refine Or.inl ⟨by kernel_rfl, ?_⟩
      intro w' hSw
      (try dsimp only at hSw)
      go_simp
      (try rfl)
    (try simp only [List.getElem_toArray, List.getElem_cons_succ, List.getElem_cons_zero, Act.put, List.setIfInBounds_toArray, List.set_cons_zero, List.set_cons_succ])
    refine wpAnyH_ready (rs := [2]) (by kernel_rfl) (by simp) ?_
    refine AllReadyH.cons rfl (fun K hK => ?_) AllReadyH.nil
    · go_simp
      refine (toGr G _ _ _ (GrdRow.drew hR9) hlG).mono ?_
      rintro e wa9 ⟨⟨va9, vb9, rfl, hoa9⟩, hBa9⟩
      refine hK.out _ _ ?_ (fun hHeld => ?_)
      · exact TgT.next hHeld hBa9
      clear hK K
      (try simp only [List.getElem_toArray, List.getElem_cons_succ, List.getElem_cons_zero, Act.put, List.setIfInBounds_toArray, List.set_cons_zero, List.set_cons_succ])
      refine wpAnyH_ready (rs := [3]) (by kernel_rfl) (by simp) ?_
      refine AllReadyH.cons rfl (fun K hK => ?_) AllReadyH.nil
      · go_simp
        refine (eqGr G _ _ _ _ _ ((GrdRow.drew hX9).below hBa9) (hoa9.row hlG)).mono ?_
        rintro e wb9 ⟨rfl, hBb9⟩
        refine hK.out _ _ ?_ (fun hHeld => ?_)
        · exact TgT.next hHeld hBb9
        clear hK K
        (try simp only [List.getElem_toArray, List.getElem_cons_succ, List.getElem_cons_zero, Act.put, List.setIfInBounds_toArray, List.set_cons_zero, List.set_cons_succ])
        refine wpAnyH_take (i := 4) (oi := ?o6) (v := ?v6) ?hi6 ?hs6 ?hf6 ?hr6 ?hQ6 ?hy6 ?hS6 ?rest6
        case hi6 => rfl
        case hs6 => kernel_rfl
        case hf6 => kernel_rfl
        case hr6 => kernel_rfl
        case hQ6 => exact fun _ _ _ h => h
        case hS6 => assumption
        case hy6 =>
          refine Or.inl ⟨by kernel_rfl, ?_⟩
          intro w' hSw
          (try dsimp only at hSw)
          go_simp
          (try rfl)
        (try simp only [List.getElem_toArray, List.getElem_cons_succ, List.getElem_cons_zero, Act.put, List.setIfInBounds_toArray, List.set_cons_zero, List.set_cons_succ])
        refine wpAnyH_done (by kernel_rfl) ?_ _
        refine NoPanic.normal ?_
        go_wp2_with fail
        go_ret
        exact ⟨rfl, bt B05 (bt (below_dr9 hBa9) hBb9)⟩

end Go.Proofs.Ytgknkjiifcnkpaa
