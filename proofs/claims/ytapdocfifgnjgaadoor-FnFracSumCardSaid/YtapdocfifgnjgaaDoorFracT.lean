
/-
  Two fractions drawn.
-/
import Derived.Test.YtapdocfifgnjgaaDoorFracD
import Derived.Test.YtapdocfifgnjgaaDoorPk9
import Derived.Test.YtapdocfifgnjgaaDoorPk8
namespace Go.Proofs.YtapdocfifgnjgaaDoor
open Go.RowKit

def TwoFOut (e : Ending) : Prop := ∃ (n0 : Bool) (h0 l0 d0 : Int) (n1 : Bool) (h1 l1 d1 : Int), ((0 ≤ h0 ∧ h0 < 18446744073709551616) ∧ (0 ≤ l0 ∧ l0 < 18446744073709551616) ∧ (-9223372036854775808 ≤ d0 ∧ d0 ≤ 9223372036854775807)) ∧ ((0 ≤ h1 ∧ h1 < 18446744073709551616) ∧ (0 ≤ l1 ∧ l1 < 18446744073709551616) ∧ (-9223372036854775808 ≤ d1 ∧ d1 ≤ 9223372036854775807)) ∧
  e = .returned (.tuple #[.agg #[.bool n0, .int .u64 h0, .int .u64 l0, .int .i64 d0], .agg #[.bool n1, .int .u64 h1, .int .u64 l1, .int .i64 d1]])
theorem fit_any (z : Int) : ∃ (m : Bool) (x y : Int) (b : Bool), (0 ≤ x ∧ x < 18446744073709551616) ∧ (0 ≤ y ∧ y < 18446744073709551616) ∧ fitW z = .returned (.tuple #[.agg #[.bool m, .int .u64 x, .int .u64 y], .bool b]) := by
  obtain ⟨m, x, y, hx, hy, h, _⟩ := fitC_shape z
  exact ⟨m, x, y, fitB z, hx, hy, by rw [fitW_CB, h]⟩
theorem zero_any : ∃ (m : Bool) (x y : Int) (b : Bool), (0 ≤ x ∧ x < 18446744073709551616) ∧ (0 ≤ y ∧ y < 18446744073709551616) ∧ Ending.returned (.tuple #[.agg #[.bool false, .int .u64 0, .int .u64 0], .bool false]) = .returned (.tuple #[.agg #[.bool m, .int .u64 x, .int .u64 y], .bool b]) := ⟨false, 0, 0, false, by omega, by omega, rfl⟩
theorem scale_any (n : Bool) (h l k : Int) : ∃ (m : Bool) (x y : Int) (b : Bool), (0 ≤ x ∧ x < 18446744073709551616) ∧ (0 ≤ y ∧ y < 18446744073709551616) ∧ scaleE n h l k = .returned (.tuple #[.agg #[.bool m, .int .u64 x, .int .u64 y], .bool b]) := by
  rw [scaleE]
  split
  · exact fit_any _
  · exact zero_any
theorem add_any (n : Bool) (h l : Int) (g : Bool) (k j : Int) : ∃ (m : Bool) (x y : Int) (b : Bool), (0 ≤ x ∧ x < 18446744073709551616) ∧ (0 ≤ y ∧ y < 18446744073709551616) ∧ addE n h l g k j = .returned (.tuple #[.agg #[.bool m, .int .u64 x, .int .u64 y], .bool b]) := by
  rw [addE]
  split
  · exact fit_any _
  · exact zero_any
theorem blk_kept_alloc {w : World} {b : Nat} {cs : Array Value} {T : TypeId} (h : w.heap[b]? = some (.cells cs T (0, 0))) {w' : World} (hB : Below w.heap.size w w') : w'.heap[b]? = some (.cells cs T (0, 0)) := box_still h hB
theorem st3_blkT {w : World} {X : Nat} {a0 a1 a2 b0 b1 b2 : Value} {T : TypeId} (h : w.heap[X]? = some (.cells #[a0, a1, a2] T (0, 0))) :
    (((w.setCell ⟨X, 0, none⟩ b0).setCell ⟨X, 1, none⟩ b1).setCell ⟨X, 2, none⟩ b2).heap[X]? = some (.cells #[b0, b1, b2] T (0, 0)) := by
  have h1 := Lib.heap_setCell_same (i := 0) h b0
  have h2 := Lib.heap_setCell_same (i := 1) h1 b1
  have h3 := Lib.heap_setCell_same (i := 2) h2 b2
  rw [h3]
  rfl
theorem st3_blk_farT {w : World} {X Y : Nat} (b0 b1 b2 : Value) (h : X ≠ Y) :
    (((w.setCell ⟨X, 0, none⟩ b0).setCell ⟨X, 1, none⟩ b1).setCell ⟨X, 2, none⟩ b2).heap[Y]? = w.heap[Y]? := by
  simp [World.setCell, Array.getElem?_modify, h]
set_option maxRecDepth 100000 in
set_option maxHeartbeats 8000000 in
theorem l5Two (w : World) (v : Value) (n : Nat) (hb : Bytes w v n) :
    Calls Tryd.prog 21 #[v] w fun e w' => TwoFOut e ∧ Below w.heap.size w w' := by
  go_enter Tryd.func21, Tryd.ntmps21
  go_wp2_with fail
  have hb1 : Bytes ((w.alloc (.cells #[.bool false, .int .u64 0, .int .u64 0, .int .i64 0] 28)).alloc (.cells #[.bool false, .int .u64 0, .int .u64 0, .int .i64 0] 28)) v n := hb.mono (((Below.refl _ _).alloc (Nat.le_refl _) _).alloc (by simp) _)
  have hsz : ((w.alloc (.cells #[.bool false, .int .u64 0, .int .u64 0, .int .i64 0] 28)).alloc (.cells #[.bool false, .int .u64 0, .int .u64 0, .int .i64 0] 28)).heap.size = w.heap.size + 1 + 1 := by simp
  refine (l1New ((w.alloc (.cells #[.bool false, .int .u64 0, .int .u64 0, .int .i64 0] 28)).alloc (.cells #[.bool false, .int .u64 0, .int .u64 0, .int .i64 0] 28)) v n hb1).mono ?_
  rintro e w1 ⟨rfl, hc1, _⟩
  rw [hsz] at hc1
  clear hb1
  go_wp2_with fail
  refine (l5Frac ((w.alloc (.cells #[.bool false, .int .u64 0, .int .u64 0, .int .i64 0] 28)).alloc (.cells #[.bool false, .int .u64 0, .int .u64 0, .int .i64 0] 28)) _ _ hc1).mono ?_
  rintro e w2 ⟨⟨n0, h0, l0, d0, hh, hl, hd, rfl⟩, hc2, _⟩
  go_wp2_with fail
  refine (l1Below ((w.alloc (.cells #[.bool false, .int .u64 0, .int .u64 0, .int .i64 0] 28)).alloc (.cells #[.bool false, .int .u64 0, .int .u64 0, .int .i64 0] 28)) _ _ 4 (by omega) (by omega) (hc2.alloc _)).mono ?_
  rintro e w3 ⟨⟨m, hm, rfl⟩, hc3, hg3⟩
  have hl2 : w.heap.size + 1 + 1 < w2.heap.size := hc2.lt
  have hF := arr_grown hg3 (by omega)
  clear hg3 hc2 hc1
  have hm4 : m = 0 ∨ m = 1 ∨ (m : Int) ≠ 0 ∧ (m : Int) ≠ 1 := by omega
  rcases hm4 with rfl | rfl | ⟨hm0, hm1⟩
  · skip
    obtain ⟨m1, x1, y1, b, hx, hy, hE⟩ := scale_any n0 h0 l0 3
    have HE := Lib.hid hE
    clear hE
    obtain ⟨q, hq⟩ : ∃ q, IntKind.i64.wrap (3 * d0) = q := ⟨_, rfl⟩
    have hqb : -9223372036854775808 ≤ q ∧ q ≤ 9223372036854775807 := by rw [← hq, IntKind.wrap_i64]; omega
    have cF0 : w3.cell? ⟨w2.heap.size, 0, none⟩ = some (.bool n0) := cell_blk hF 0
    have cF1 : w3.cell? ⟨w2.heap.size, 1, none⟩ = some (.int .u64 h0) := cell_blk hF 1
    have cF2 : w3.cell? ⟨w2.heap.size, 2, none⟩ = some (.int .u64 l0) := cell_blk hF 2
    have cF3 : w3.cell? ⟨w2.heap.size, 3, none⟩ = some (.int .i64 d0) := cell_blk hF 3
    have lF := blkF hF
    go_wp2_with fail
    refine (specScaleWide n0 h0 l0 3 hh.1 hh.2 hl.1 hl.2 (by omega) (by omega) _).mono ?_
    rintro e w4 ⟨rfl, hB4⟩
    rw [HE.out]
    replace hF := box_still hF hB4
    have hc := hc3.still hB4
    clear hB4 hc3
    clear cF0 cF1 cF2 cF3 lF
    have cF0 : w4.cell? ⟨w2.heap.size, 0, none⟩ = some (.bool n0) := cell_blk hF 0
    have cF1 : w4.cell? ⟨w2.heap.size, 1, none⟩ = some (.int .u64 h0) := cell_blk hF 1
    have cF2 : w4.cell? ⟨w2.heap.size, 2, none⟩ = some (.int .u64 l0) := cell_blk hF 2
    have cF3 : w4.cell? ⟨w2.heap.size, 3, none⟩ = some (.int .i64 d0) := cell_blk hF 3
    have lF := blkF hF
    cases b with
    | true =>
      by_cases hd9 : d0 < 1000
      · go_wp2_with fail
        have hX := box_new w4 (.cells #[.bool m1, .int .u64 x1, .int .u64 y1] 26)
        have hlx : w2.heap.size < w4.heap.size := blkF hF
        clear cF0 cF1 cF2 cF3 lF
        replace hF := blkAl hF (.cells #[.bool m1, .int .u64 x1, .int .u64 y1] 26)
        replace hc := hc.alloc (.cells #[.bool m1, .int .u64 x1, .int .u64 y1] 26)
        generalize (w4.alloc (.cells #[.bool m1, .int .u64 x1, .int .u64 y1] 26)) = wx at hX hF hc ⊢
        generalize w4.heap.size = X1 at hX hlx ⊢
        have hDD : wx.drew.cell? ⟨w2.heap.size, 0, none⟩ = some (.bool n0) ∧ wx.drew.cell? ⟨w2.heap.size, 1, none⟩ = some (.int .u64 h0) ∧ wx.drew.cell? ⟨w2.heap.size, 2, none⟩ = some (.int .u64 l0) ∧ wx.drew.cell? ⟨w2.heap.size, 3, none⟩ = some (.int .i64 d0) ∧ wx.drew.cell? ⟨X1, 0, none⟩ = some (.bool m1) ∧ wx.drew.cell? ⟨X1, 1, none⟩ = some (.int .u64 x1) ∧ wx.drew.cell? ⟨X1, 2, none⟩ = some (.int .u64 y1) := ⟨cell_blk (w := wx) hF 0, cell_blk (w := wx) hF 1, cell_blk (w := wx) hF 2, cell_blk (w := wx) hF 3, cell_blk (w := wx) hX 0, cell_blk (w := wx) hX 1, cell_blk (w := wx) hX 2⟩
        refine wp_region_noPanic ?_
        refine wp_region_held_drew (S := (fun w' => w'.cell? ⟨w2.heap.size, 0, none⟩ = some (.bool n0) ∧ w'.cell? ⟨w2.heap.size, 1, none⟩ = some (.int .u64 h0) ∧ w'.cell? ⟨w2.heap.size, 2, none⟩ = some (.int .u64 l0) ∧ w'.cell? ⟨w2.heap.size, 3, none⟩ = some (.int .i64 d0) ∧ w'.cell? ⟨X1, 0, none⟩ = some (.bool m1) ∧ w'.cell? ⟨X1, 1, none⟩ = some (.int .u64 x1) ∧ w'.cell? ⟨X1, 2, none⟩ = some (.int .u64 y1))) (by kernel_rfl) hDD (fun hHeld => ?_)
        clear hDD
        replace hF : wx.drew.heap[w2.heap.size]? = _ := hF
        replace hX : wx.drew.heap[X1]? = _ := hX
        replace hc := Cur.drew hc
        generalize wx.drew = wd1 at hF hX hc hHeld ⊢
        refine wpAnyH_take (i := 0) (oi := ?o1) (v := ?v1) ?hi1 ?hs1 ?hf1 ?hr1 ?hQ1 ?hy1 ?hS1 ?rest1
        case hi1 => rfl
        case hs1 => kernel_rfl
        case hf1 => kernel_rfl
        case hr1 => kernel_rfl
        case hQ1 => exact fun _ _ _ h => h
        case hS1 => assumption
        case hy1 =>
          refine Or.inl ⟨by kernel_rfl, ?_⟩
          intro w' hSw
          (try dsimp only at hSw)
          go_simp
          (try rfl)
        (try simp only [List.getElem_toArray, List.getElem_cons_zero, Act.put, List.setIfInBounds_toArray, List.set_cons_zero, List.set_cons_succ])
        refine wpAnyH_take (i := 1) (oi := ?o2) (v := ?v2) ?hi2 ?hs2 ?hf2 ?hr2 ?hQ2 ?hy2 ?hS2 ?rest2
        case hi2 => rfl
        case hs2 => kernel_rfl
        case hf2 => kernel_rfl
        case hr2 => kernel_rfl
        case hQ2 => exact fun _ _ _ h => h
        case hS2 => assumption
        case hy2 =>
          refine Or.inl ⟨by kernel_rfl, ?_⟩
          intro w' hSw
          (try dsimp only at hSw)
          go_simp
          (try rfl)
        (try simp only [List.getElem_toArray, List.getElem_cons_succ, List.getElem_cons_zero, Act.put, List.setIfInBounds_toArray, List.set_cons_zero, List.set_cons_succ])
        refine wpAnyH_take (i := 2) (oi := ?o3) (v := ?v3) ?hi3 ?hs3 ?hf3 ?hr3 ?hQ3 ?hy3 ?hS3 ?rest3
        case hi3 => rfl
        case hs3 => kernel_rfl
        case hf3 => kernel_rfl
        case hr3 => kernel_rfl
        case hQ3 => exact fun _ _ _ h => h
        case hS3 => assumption
        case hy3 =>
          refine Or.inl ⟨by kernel_rfl, ?_⟩
          intro w' hSw
          (try dsimp only at hSw)
          go_simp
          (try rfl)
        (try simp only [List.getElem_toArray, List.getElem_cons_succ, List.getElem_cons_zero, Act.put, List.setIfInBounds_toArray, List.set_cons_zero, List.set_cons_succ])
        refine wpAnyH_take (i := 3) (oi := ?o4) (v := ?v4) ?hi4 ?hs4 ?hf4 ?hr4 ?hQ4 ?hy4 ?hS4 ?rest4
        case hi4 => rfl
        case hs4 => kernel_rfl
        case hf4 => kernel_rfl
        case hr4 => kernel_rfl
        case hQ4 => exact fun _ _ _ h => h
        case hS4 => assumption
        case hy4 =>
          refine Or.inl ⟨by kernel_rfl, ?_⟩
          intro w' hSw
          (try dsimp only at hSw)
          go_simp
          (try rfl)
        (try simp only [List.getElem_toArray, List.getElem_cons_succ, List.getElem_cons_zero, Act.put, List.setIfInBounds_toArray, List.set_cons_zero, List.set_cons_succ])
        refine wpAnyH_take (i := 4) (oi := ?o5) (v := ?v5) ?hi5 ?hs5 ?hf5 ?hr5 ?hQ5 ?hy5 ?hS5 ?rest5
        case hi5 => rfl
        case hs5 => kernel_rfl
        case hf5 => kernel_rfl
        case hr5 => kernel_rfl
        case hQ5 => exact fun _ _ _ h => h
        case hS5 => assumption
        case hy5 =>
          refine Or.inl ⟨by kernel_rfl, ?_⟩
          intro w' hSw
          (try dsimp only at hSw)
          go_simp
          (try rfl)
        (try simp only [List.getElem_toArray, List.getElem_cons_succ, List.getElem_cons_zero, Act.put, List.setIfInBounds_toArray, List.set_cons_zero, List.set_cons_succ])
        refine wpAnyH_take (i := 5) (oi := ?o6) (v := ?v6) ?hi6 ?hs6 ?hf6 ?hr6 ?hQ6 ?hy6 ?hS6 ?rest6
        case hi6 => rfl
        case hs6 => kernel_rfl
        case hf6 => kernel_rfl
        case hr6 => kernel_rfl
        case hQ6 => exact fun _ _ _ h => h
        case hS6 => assumption
        case hy6 =>
          refine Or.inl ⟨by kernel_rfl, ?_⟩
          intro w' hSw
          (try dsimp only at hSw)
          go_simp
          (try rfl)
        (try simp only [List.getElem_toArray, List.getElem_cons_succ, List.getElem_cons_zero, Act.put, List.setIfInBounds_toArray, List.set_cons_zero, List.set_cons_succ])
        obtain ⟨hR, hS, hBB, _⟩ := box2 (cur_below hc)
        have HT := Lib.hid hBB
        clear hBB hc
        have cR0 : wd1.cell? ⟨w.heap.size, 0, none⟩ = some (.bool false) := cell_blk hR 0
        have cR1 : wd1.cell? ⟨w.heap.size, 1, none⟩ = some (.int .u64 0) := cell_blk hR 1
        have cR2 : wd1.cell? ⟨w.heap.size, 2, none⟩ = some (.int .u64 0) := cell_blk hR 2
        have cR3 : wd1.cell? ⟨w.heap.size, 3, none⟩ = some (.int .i64 0) := cell_blk hR 3
        have fR := free_blk hR
        have lR := blkF hR
        refine wpAnyH_ready (rs := [6]) (by kernel_rfl) (by simp) ?_
        refine AllReadyH.cons rfl (fun K hK => ?_) AllReadyH.nil
        go_simp
        replace hF := (st4_blk_farF (.bool n0) (.int .u64 h0) (.int .u64 l0) (.int .i64 d0) (show w.heap.size ≠ w2.heap.size by omega)).trans hF
        replace hX := (st4_blk_farF (.bool n0) (.int .u64 h0) (.int .u64 l0) (.int .i64 d0) (show w.heap.size ≠ X1 by omega)).trans hX
        replace hS := (st4_blk_farF (.bool n0) (.int .u64 h0) (.int .u64 l0) (.int .i64 d0) (show w.heap.size ≠ w.heap.size + 1 by omega)).trans hS
        have hR2 := st4_blkF (b0 := .bool n0) (b1 := .int .u64 h0) (b2 := .int .u64 l0) (b3 := .int .i64 d0) hR
        replace HT := Lib.hid (st4_belowF (X := w.heap.size) HT.out (by omega) (.bool n0) (.int .u64 h0) (.int .u64 l0) (.int .i64 d0))
        clear hR cR0 cR1 cR2 cR3 fR lR
        refine hK.out _ _ ?_ (fun hHeld => ?_)
        · exact ⟨cell_blk hF 0, cell_blk hF 1, cell_blk hF 2, cell_blk hF 3, cell_blk hX 0, cell_blk hX 1, cell_blk hX 2⟩
        clear hK K
        (try simp only [List.getElem_toArray, List.getElem_cons_succ, List.getElem_cons_zero, Act.put, List.setIfInBounds_toArray, List.set_cons_zero, List.set_cons_succ])
        generalize ((((wd1.setCell ⟨w.heap.size, 0, none⟩ (.bool n0)).setCell ⟨w.heap.size, 1, none⟩ (.int .u64 h0)).setCell ⟨w.heap.size, 2, none⟩ (.int .u64 l0)).setCell ⟨w.heap.size, 3, none⟩ (.int .i64 d0)) = ws2 at hF hX hS hR2 HT hHeld ⊢
        have cS0 : ws2.cell? ⟨w.heap.size + 1, 0, none⟩ = some (.bool false) := cell_blk hS 0
        have cS1 : ws2.cell? ⟨w.heap.size + 1, 1, none⟩ = some (.int .u64 0) := cell_blk hS 1
        have cS2 : ws2.cell? ⟨w.heap.size + 1, 2, none⟩ = some (.int .u64 0) := cell_blk hS 2
        have cS3 : ws2.cell? ⟨w.heap.size + 1, 3, none⟩ = some (.int .i64 0) := cell_blk hS 3
        have fS := free_blk hS
        have lS := blkF hS
        refine wpAnyH_ready (rs := [7]) (by kernel_rfl) (by simp) ?_
        refine AllReadyH.cons rfl (fun K hK => ?_) AllReadyH.nil
        go_simp
        replace hF := (st4_blk_farF (.bool m1) (.int .u64 x1) (.int .u64 y1) (.int .i64 q) (show w.heap.size + 1 ≠ w2.heap.size by omega)).trans hF
        replace hX := (st4_blk_farF (.bool m1) (.int .u64 x1) (.int .u64 y1) (.int .i64 q) (show w.heap.size + 1 ≠ X1 by omega)).trans hX
        replace hR2 := (st4_blk_farF (.bool m1) (.int .u64 x1) (.int .u64 y1) (.int .i64 q) (show w.heap.size + 1 ≠ w.heap.size by omega)).trans hR2
        have hS2 := st4_blkF (b0 := .bool m1) (b1 := .int .u64 x1) (b2 := .int .u64 y1) (b3 := .int .i64 q) hS
        replace HT := Lib.hid (st4_belowF (X := w.heap.size + 1) HT.out (by omega) (.bool m1) (.int .u64 x1) (.int .u64 y1) (.int .i64 q))
        clear hS cS0 cS1 cS2 cS3 fS lS
        refine hK.out _ _ ?_ (fun hHeld => ?_)
        · exact ⟨cell_blk hF 0, cell_blk hF 1, cell_blk hF 2, cell_blk hF 3, cell_blk hX 0, cell_blk hX 1, cell_blk hX 2⟩
        clear hK K
        (try simp only [List.getElem_toArray, List.getElem_cons_succ, List.getElem_cons_zero, Act.put, List.setIfInBounds_toArray, List.set_cons_zero, List.set_cons_succ])
        generalize ((((ws2.setCell ⟨w.heap.size + 1, 0, none⟩ (.bool m1)).setCell ⟨w.heap.size + 1, 1, none⟩ (.int .u64 x1)).setCell ⟨w.heap.size + 1, 2, none⟩ (.int .u64 y1)).setCell ⟨w.heap.size + 1, 3, none⟩ (.int .i64 q)) = wt3 at hF hX hS2 hR2 HT hHeld ⊢
        refine wpAnyH_done (by kernel_rfl) ?_ _
        refine NoPanic.normal ?_
        have e0 : wt3.cell? ⟨w.heap.size, 0, none⟩ = some (.bool n0) := cell_blk hR2 0
        have e1 : wt3.cell? ⟨w.heap.size, 1, none⟩ = some (.int .u64 h0) := cell_blk hR2 1
        have e2 : wt3.cell? ⟨w.heap.size, 2, none⟩ = some (.int .u64 l0) := cell_blk hR2 2
        have e3 : wt3.cell? ⟨w.heap.size, 3, none⟩ = some (.int .i64 d0) := cell_blk hR2 3
        have g0 : wt3.cell? ⟨w.heap.size + 1, 0, none⟩ = some (.bool m1) := cell_blk hS2 0
        have g1 : wt3.cell? ⟨w.heap.size + 1, 1, none⟩ = some (.int .u64 x1) := cell_blk hS2 1
        have g2 : wt3.cell? ⟨w.heap.size + 1, 2, none⟩ = some (.int .u64 y1) := cell_blk hS2 2
        have g3 : wt3.cell? ⟨w.heap.size + 1, 3, none⟩ = some (.int .i64 q) := cell_blk hS2 3
        clear hR2 hS2 hHeld
        go_wp2_with fail
        (try simp only [Exit.inBlock, Exit.then])
        refine bodyPost_ret (v := .tuple #[.agg #[.bool n0, .int .u64 h0, .int .u64 l0, .int .i64 d0], .agg #[.bool m1, .int .u64 x1, .int .u64 y1, .int .i64 q]]) ?_ rfl ⟨⟨_, _, _, _, _, _, _, _, ⟨hh, hl, hd⟩, ⟨hx, hy, hqb⟩, rfl⟩, HT.out⟩
        rw [results_cells2 rfl]
        go_simp
      · go_wp2_with fail
        have hX := box_new w4 (.cells #[.bool m1, .int .u64 x1, .int .u64 y1] 26)
        have hlx : w2.heap.size < w4.heap.size := blkF hF
        clear cF0 cF1 cF2 cF3 lF
        replace hF := blkAl hF (.cells #[.bool m1, .int .u64 x1, .int .u64 y1] 26)
        replace hc := hc.alloc (.cells #[.bool m1, .int .u64 x1, .int .u64 y1] 26)
        generalize (w4.alloc (.cells #[.bool m1, .int .u64 x1, .int .u64 y1] 26)) = wx at hX hF hc ⊢
        generalize w4.heap.size = X1 at hX hlx ⊢
        have hDD : wx.drew.cell? ⟨w2.heap.size, 0, none⟩ = some (.bool n0) ∧ wx.drew.cell? ⟨w2.heap.size, 1, none⟩ = some (.int .u64 h0) ∧ wx.drew.cell? ⟨w2.heap.size, 2, none⟩ = some (.int .u64 l0) ∧ wx.drew.cell? ⟨w2.heap.size, 3, none⟩ = some (.int .i64 d0) := ⟨cell_blk (w := wx) hF 0, cell_blk (w := wx) hF 1, cell_blk (w := wx) hF 2, cell_blk (w := wx) hF 3⟩
        refine wp_region_noPanic ?_
        refine wp_region_held_drew (S := (fun w' => w'.cell? ⟨w2.heap.size, 0, none⟩ = some (.bool n0) ∧ w'.cell? ⟨w2.heap.size, 1, none⟩ = some (.int .u64 h0) ∧ w'.cell? ⟨w2.heap.size, 2, none⟩ = some (.int .u64 l0) ∧ w'.cell? ⟨w2.heap.size, 3, none⟩ = some (.int .i64 d0))) (by kernel_rfl) hDD (fun hHeld => ?_)
        clear hDD
        replace hF : wx.drew.heap[w2.heap.size]? = _ := hF
        replace hc := Cur.drew hc
        generalize wx.drew = wd4 at hF hc hHeld ⊢
        refine wpAnyH_take (i := 0) (oi := ?o7) (v := ?v7) ?hi7 ?hs7 ?hf7 ?hr7 ?hQ7 ?hy7 ?hS7 ?rest7
        case hi7 => rfl
        case hs7 => kernel_rfl
        case hf7 => kernel_rfl
        case hr7 => kernel_rfl
        case hQ7 => exact fun _ _ _ h => h
        case hS7 => assumption
        case hy7 =>
          refine Or.inl ⟨by kernel_rfl, ?_⟩
          intro w' hSw
          (try dsimp only at hSw)
          go_simp
          (try rfl)
        (try simp only [List.getElem_toArray, List.getElem_cons_zero, Act.put, List.setIfInBounds_toArray, List.set_cons_zero, List.set_cons_succ])
        refine wpAnyH_take (i := 1) (oi := ?o8) (v := ?v8) ?hi8 ?hs8 ?hf8 ?hr8 ?hQ8 ?hy8 ?hS8 ?rest8
        case hi8 => rfl
        case hs8 => kernel_rfl
        case hf8 => kernel_rfl
        case hr8 => kernel_rfl
        case hQ8 => exact fun _ _ _ h => h
        case hS8 => assumption
        case hy8 =>
          refine Or.inl ⟨by kernel_rfl, ?_⟩
          intro w' hSw
          (try dsimp only at hSw)
          go_simp
          (try rfl)
        (try simp only [List.getElem_toArray, List.getElem_cons_succ, List.getElem_cons_zero, Act.put, List.setIfInBounds_toArray, List.set_cons_zero, List.set_cons_succ])
        refine wpAnyH_ready (rs := [2]) (by kernel_rfl) (by simp) ?_
        refine AllReadyH.cons rfl (fun K hK => ?_) AllReadyH.nil
        go_simp
        refine (l5Frac ((w.alloc (.cells #[.bool false, .int .u64 0, .int .u64 0, .int .i64 0] 28)).alloc (.cells #[.bool false, .int .u64 0, .int .u64 0, .int .i64 0] 28)) _ _ hc).mono ?_
        rintro e wf5 ⟨⟨n1, h1, l1, d1, hh1, hl1, hd1, rfl⟩, hcf, hgf⟩
        replace hF := blk_grown hF hgf (by omega)
        clear hgf hc
        have hc := hcf
        clear hcf
        refine hK.out _ _ ?_ (fun hHeld => ?_)
        · exact ⟨cell_blk hF 0, cell_blk hF 1, cell_blk hF 2, cell_blk hF 3⟩
        clear hK K
        (try simp only [List.getElem_toArray, List.getElem_cons_succ, List.getElem_cons_zero, Act.put, List.setIfInBounds_toArray, List.set_cons_zero, List.set_cons_succ])
        obtain ⟨hR, hS, hBB, _⟩ := box2 (cur_below hc)
        have HT := Lib.hid hBB
        clear hBB hc
        have cR0 : wf5.cell? ⟨w.heap.size, 0, none⟩ = some (.bool false) := cell_blk hR 0
        have cR1 : wf5.cell? ⟨w.heap.size, 1, none⟩ = some (.int .u64 0) := cell_blk hR 1
        have cR2 : wf5.cell? ⟨w.heap.size, 2, none⟩ = some (.int .u64 0) := cell_blk hR 2
        have cR3 : wf5.cell? ⟨w.heap.size, 3, none⟩ = some (.int .i64 0) := cell_blk hR 3
        have fR := free_blk hR
        have lR := blkF hR
        refine wpAnyH_ready (rs := [3]) (by kernel_rfl) (by simp) ?_
        refine AllReadyH.cons rfl (fun K hK => ?_) AllReadyH.nil
        go_simp
        replace hF := (st4_blk_farF (.bool n0) (.int .u64 h0) (.int .u64 l0) (.int .i64 d0) (show w.heap.size ≠ w2.heap.size by omega)).trans hF
        replace hS := (st4_blk_farF (.bool n0) (.int .u64 h0) (.int .u64 l0) (.int .i64 d0) (show w.heap.size ≠ w.heap.size + 1 by omega)).trans hS
        have hR2 := st4_blkF (b0 := .bool n0) (b1 := .int .u64 h0) (b2 := .int .u64 l0) (b3 := .int .i64 d0) hR
        replace HT := Lib.hid (st4_belowF (X := w.heap.size) HT.out (by omega) (.bool n0) (.int .u64 h0) (.int .u64 l0) (.int .i64 d0))
        clear hR cR0 cR1 cR2 cR3 fR lR
        refine hK.out _ _ ?_ (fun hHeld => ?_)
        · exact ⟨cell_blk hF 0, cell_blk hF 1, cell_blk hF 2, cell_blk hF 3⟩
        clear hK K
        (try simp only [List.getElem_toArray, List.getElem_cons_succ, List.getElem_cons_zero, Act.put, List.setIfInBounds_toArray, List.set_cons_zero, List.set_cons_succ])
        generalize ((((wf5.setCell ⟨w.heap.size, 0, none⟩ (.bool n0)).setCell ⟨w.heap.size, 1, none⟩ (.int .u64 h0)).setCell ⟨w.heap.size, 2, none⟩ (.int .u64 l0)).setCell ⟨w.heap.size, 3, none⟩ (.int .i64 d0)) = ws6 at hF hS hR2 HT hHeld ⊢
        have cS0 : ws6.cell? ⟨w.heap.size + 1, 0, none⟩ = some (.bool false) := cell_blk hS 0
        have cS1 : ws6.cell? ⟨w.heap.size + 1, 1, none⟩ = some (.int .u64 0) := cell_blk hS 1
        have cS2 : ws6.cell? ⟨w.heap.size + 1, 2, none⟩ = some (.int .u64 0) := cell_blk hS 2
        have cS3 : ws6.cell? ⟨w.heap.size + 1, 3, none⟩ = some (.int .i64 0) := cell_blk hS 3
        have fS := free_blk hS
        have lS := blkF hS
        refine wpAnyH_ready (rs := [4]) (by kernel_rfl) (by simp) ?_
        refine AllReadyH.cons rfl (fun K hK => ?_) AllReadyH.nil
        go_simp
        replace hF := (st4_blk_farF (.bool n1) (.int .u64 h1) (.int .u64 l1) (.int .i64 d1) (show w.heap.size + 1 ≠ w2.heap.size by omega)).trans hF
        replace hR2 := (st4_blk_farF (.bool n1) (.int .u64 h1) (.int .u64 l1) (.int .i64 d1) (show w.heap.size + 1 ≠ w.heap.size by omega)).trans hR2
        have hS2 := st4_blkF (b0 := .bool n1) (b1 := .int .u64 h1) (b2 := .int .u64 l1) (b3 := .int .i64 d1) hS
        replace HT := Lib.hid (st4_belowF (X := w.heap.size + 1) HT.out (by omega) (.bool n1) (.int .u64 h1) (.int .u64 l1) (.int .i64 d1))
        clear hS cS0 cS1 cS2 cS3 fS lS
        refine hK.out _ _ ?_ (fun hHeld => ?_)
        · exact ⟨cell_blk hF 0, cell_blk hF 1, cell_blk hF 2, cell_blk hF 3⟩
        clear hK K
        (try simp only [List.getElem_toArray, List.getElem_cons_succ, List.getElem_cons_zero, Act.put, List.setIfInBounds_toArray, List.set_cons_zero, List.set_cons_succ])
        generalize ((((ws6.setCell ⟨w.heap.size + 1, 0, none⟩ (.bool n1)).setCell ⟨w.heap.size + 1, 1, none⟩ (.int .u64 h1)).setCell ⟨w.heap.size + 1, 2, none⟩ (.int .u64 l1)).setCell ⟨w.heap.size + 1, 3, none⟩ (.int .i64 d1)) = wt7 at hF hS2 hR2 HT hHeld ⊢
        refine wpAnyH_done (by kernel_rfl) ?_ _
        refine NoPanic.normal ?_
        have e0 : wt7.cell? ⟨w.heap.size, 0, none⟩ = some (.bool n0) := cell_blk hR2 0
        have e1 : wt7.cell? ⟨w.heap.size, 1, none⟩ = some (.int .u64 h0) := cell_blk hR2 1
        have e2 : wt7.cell? ⟨w.heap.size, 2, none⟩ = some (.int .u64 l0) := cell_blk hR2 2
        have e3 : wt7.cell? ⟨w.heap.size, 3, none⟩ = some (.int .i64 d0) := cell_blk hR2 3
        have g0 : wt7.cell? ⟨w.heap.size + 1, 0, none⟩ = some (.bool n1) := cell_blk hS2 0
        have g1 : wt7.cell? ⟨w.heap.size + 1, 1, none⟩ = some (.int .u64 h1) := cell_blk hS2 1
        have g2 : wt7.cell? ⟨w.heap.size + 1, 2, none⟩ = some (.int .u64 l1) := cell_blk hS2 2
        have g3 : wt7.cell? ⟨w.heap.size + 1, 3, none⟩ = some (.int .i64 d1) := cell_blk hS2 3
        clear hR2 hS2 hHeld
        go_wp2_with fail
        (try simp only [Exit.inBlock, Exit.then])
        refine bodyPost_ret (v := .tuple #[.agg #[.bool n0, .int .u64 h0, .int .u64 l0, .int .i64 d0], .agg #[.bool n1, .int .u64 h1, .int .u64 l1, .int .i64 d1]]) ?_ rfl ⟨⟨_, _, _, _, _, _, _, _, ⟨hh, hl, hd⟩, ⟨hh1, hl1, hd1⟩, rfl⟩, HT.out⟩
        rw [results_cells2 rfl]
        go_simp
    | false =>
      go_wp2_with fail
      have hX := box_new w4 (.cells #[.bool m1, .int .u64 x1, .int .u64 y1] 26)
      have hlx : w2.heap.size < w4.heap.size := blkF hF
      clear cF0 cF1 cF2 cF3 lF
      replace hF := blkAl hF (.cells #[.bool m1, .int .u64 x1, .int .u64 y1] 26)
      replace hc := hc.alloc (.cells #[.bool m1, .int .u64 x1, .int .u64 y1] 26)
      generalize (w4.alloc (.cells #[.bool m1, .int .u64 x1, .int .u64 y1] 26)) = wx at hX hF hc ⊢
      generalize w4.heap.size = X1 at hX hlx ⊢
      have hDD : wx.drew.cell? ⟨w2.heap.size, 0, none⟩ = some (.bool n0) ∧ wx.drew.cell? ⟨w2.heap.size, 1, none⟩ = some (.int .u64 h0) ∧ wx.drew.cell? ⟨w2.heap.size, 2, none⟩ = some (.int .u64 l0) ∧ wx.drew.cell? ⟨w2.heap.size, 3, none⟩ = some (.int .i64 d0) := ⟨cell_blk (w := wx) hF 0, cell_blk (w := wx) hF 1, cell_blk (w := wx) hF 2, cell_blk (w := wx) hF 3⟩
      refine wp_region_noPanic ?_
      refine wp_region_held_drew (S := (fun w' => w'.cell? ⟨w2.heap.size, 0, none⟩ = some (.bool n0) ∧ w'.cell? ⟨w2.heap.size, 1, none⟩ = some (.int .u64 h0) ∧ w'.cell? ⟨w2.heap.size, 2, none⟩ = some (.int .u64 l0) ∧ w'.cell? ⟨w2.heap.size, 3, none⟩ = some (.int .i64 d0))) (by kernel_rfl) hDD (fun hHeld => ?_)
      clear hDD
      replace hF : wx.drew.heap[w2.heap.size]? = _ := hF
      replace hc := Cur.drew hc
      generalize wx.drew = wd8 at hF hc hHeld ⊢
      refine wpAnyH_take (i := 0) (oi := ?o9) (v := ?v9) ?hi9 ?hs9 ?hf9 ?hr9 ?hQ9 ?hy9 ?hS9 ?rest9
      case hi9 => rfl
      case hs9 => kernel_rfl
      case hf9 => kernel_rfl
      case hr9 => kernel_rfl
      case hQ9 => exact fun _ _ _ h => h
      case hS9 => assumption
      case hy9 =>
        refine Or.inl ⟨by kernel_rfl, ?_⟩
        intro w' hSw
        (try dsimp only at hSw)
        go_simp
        (try rfl)
      (try simp only [List.getElem_toArray, List.getElem_cons_zero, Act.put, List.setIfInBounds_toArray, List.set_cons_zero, List.set_cons_succ])
      refine wpAnyH_take (i := 1) (oi := ?o10) (v := ?v10) ?hi10 ?hs10 ?hf10 ?hr10 ?hQ10 ?hy10 ?hS10 ?rest10
      case hi10 => rfl
      case hs10 => kernel_rfl
      case hf10 => kernel_rfl
      case hr10 => kernel_rfl
      case hQ10 => exact fun _ _ _ h => h
      case hS10 => assumption
      case hy10 =>
        refine Or.inl ⟨by kernel_rfl, ?_⟩
        intro w' hSw
        (try dsimp only at hSw)
        go_simp
        (try rfl)
      (try simp only [List.getElem_toArray, List.getElem_cons_succ, List.getElem_cons_zero, Act.put, List.setIfInBounds_toArray, List.set_cons_zero, List.set_cons_succ])
      refine wpAnyH_ready (rs := [2]) (by kernel_rfl) (by simp) ?_
      refine AllReadyH.cons rfl (fun K hK => ?_) AllReadyH.nil
      go_simp
      refine (l5Frac ((w.alloc (.cells #[.bool false, .int .u64 0, .int .u64 0, .int .i64 0] 28)).alloc (.cells #[.bool false, .int .u64 0, .int .u64 0, .int .i64 0] 28)) _ _ hc).mono ?_
      rintro e wf9 ⟨⟨n1, h1, l1, d1, hh1, hl1, hd1, rfl⟩, hcf, hgf⟩
      replace hF := blk_grown hF hgf (by omega)
      clear hgf hc
      have hc := hcf
      clear hcf
      refine hK.out _ _ ?_ (fun hHeld => ?_)
      · exact ⟨cell_blk hF 0, cell_blk hF 1, cell_blk hF 2, cell_blk hF 3⟩
      clear hK K
      (try simp only [List.getElem_toArray, List.getElem_cons_succ, List.getElem_cons_zero, Act.put, List.setIfInBounds_toArray, List.set_cons_zero, List.set_cons_succ])
      obtain ⟨hR, hS, hBB, _⟩ := box2 (cur_below hc)
      have HT := Lib.hid hBB
      clear hBB hc
      have cR0 : wf9.cell? ⟨w.heap.size, 0, none⟩ = some (.bool false) := cell_blk hR 0
      have cR1 : wf9.cell? ⟨w.heap.size, 1, none⟩ = some (.int .u64 0) := cell_blk hR 1
      have cR2 : wf9.cell? ⟨w.heap.size, 2, none⟩ = some (.int .u64 0) := cell_blk hR 2
      have cR3 : wf9.cell? ⟨w.heap.size, 3, none⟩ = some (.int .i64 0) := cell_blk hR 3
      have fR := free_blk hR
      have lR := blkF hR
      refine wpAnyH_ready (rs := [3]) (by kernel_rfl) (by simp) ?_
      refine AllReadyH.cons rfl (fun K hK => ?_) AllReadyH.nil
      go_simp
      replace hF := (st4_blk_farF (.bool n0) (.int .u64 h0) (.int .u64 l0) (.int .i64 d0) (show w.heap.size ≠ w2.heap.size by omega)).trans hF
      replace hS := (st4_blk_farF (.bool n0) (.int .u64 h0) (.int .u64 l0) (.int .i64 d0) (show w.heap.size ≠ w.heap.size + 1 by omega)).trans hS
      have hR2 := st4_blkF (b0 := .bool n0) (b1 := .int .u64 h0) (b2 := .int .u64 l0) (b3 := .int .i64 d0) hR
      replace HT := Lib.hid (st4_belowF (X := w.heap.size) HT.out (by omega) (.bool n0) (.int .u64 h0) (.int .u64 l0) (.int .i64 d0))
      clear hR cR0 cR1 cR2 cR3 fR lR
      refine hK.out _ _ ?_ (fun hHeld => ?_)
      · exact ⟨cell_blk hF 0, cell_blk hF 1, cell_blk hF 2, cell_blk hF 3⟩
      clear hK K
      (try simp only [List.getElem_toArray, List.getElem_cons_succ, List.getElem_cons_zero, Act.put, List.setIfInBounds_toArray, List.set_cons_zero, List.set_cons_succ])
      generalize ((((wf9.setCell ⟨w.heap.size, 0, none⟩ (.bool n0)).setCell ⟨w.heap.size, 1, none⟩ (.int .u64 h0)).setCell ⟨w.heap.size, 2, none⟩ (.int .u64 l0)).setCell ⟨w.heap.size, 3, none⟩ (.int .i64 d0)) = ws10 at hF hS hR2 HT hHeld ⊢
      have cS0 : ws10.cell? ⟨w.heap.size + 1, 0, none⟩ = some (.bool false) := cell_blk hS 0
      have cS1 : ws10.cell? ⟨w.heap.size + 1, 1, none⟩ = some (.int .u64 0) := cell_blk hS 1
      have cS2 : ws10.cell? ⟨w.heap.size + 1, 2, none⟩ = some (.int .u64 0) := cell_blk hS 2
      have cS3 : ws10.cell? ⟨w.heap.size + 1, 3, none⟩ = some (.int .i64 0) := cell_blk hS 3
      have fS := free_blk hS
      have lS := blkF hS
      refine wpAnyH_ready (rs := [4]) (by kernel_rfl) (by simp) ?_
      refine AllReadyH.cons rfl (fun K hK => ?_) AllReadyH.nil
      go_simp
      replace hF := (st4_blk_farF (.bool n1) (.int .u64 h1) (.int .u64 l1) (.int .i64 d1) (show w.heap.size + 1 ≠ w2.heap.size by omega)).trans hF
      replace hR2 := (st4_blk_farF (.bool n1) (.int .u64 h1) (.int .u64 l1) (.int .i64 d1) (show w.heap.size + 1 ≠ w.heap.size by omega)).trans hR2
      have hS2 := st4_blkF (b0 := .bool n1) (b1 := .int .u64 h1) (b2 := .int .u64 l1) (b3 := .int .i64 d1) hS
      replace HT := Lib.hid (st4_belowF (X := w.heap.size + 1) HT.out (by omega) (.bool n1) (.int .u64 h1) (.int .u64 l1) (.int .i64 d1))
      clear hS cS0 cS1 cS2 cS3 fS lS
      refine hK.out _ _ ?_ (fun hHeld => ?_)
      · exact ⟨cell_blk hF 0, cell_blk hF 1, cell_blk hF 2, cell_blk hF 3⟩
      clear hK K
      (try simp only [List.getElem_toArray, List.getElem_cons_succ, List.getElem_cons_zero, Act.put, List.setIfInBounds_toArray, List.set_cons_zero, List.set_cons_succ])
      generalize ((((ws10.setCell ⟨w.heap.size + 1, 0, none⟩ (.bool n1)).setCell ⟨w.heap.size + 1, 1, none⟩ (.int .u64 h1)).setCell ⟨w.heap.size + 1, 2, none⟩ (.int .u64 l1)).setCell ⟨w.heap.size + 1, 3, none⟩ (.int .i64 d1)) = wt11 at hF hS2 hR2 HT hHeld ⊢
      refine wpAnyH_done (by kernel_rfl) ?_ _
      refine NoPanic.normal ?_
      have e0 : wt11.cell? ⟨w.heap.size, 0, none⟩ = some (.bool n0) := cell_blk hR2 0
      have e1 : wt11.cell? ⟨w.heap.size, 1, none⟩ = some (.int .u64 h0) := cell_blk hR2 1
      have e2 : wt11.cell? ⟨w.heap.size, 2, none⟩ = some (.int .u64 l0) := cell_blk hR2 2
      have e3 : wt11.cell? ⟨w.heap.size, 3, none⟩ = some (.int .i64 d0) := cell_blk hR2 3
      have g0 : wt11.cell? ⟨w.heap.size + 1, 0, none⟩ = some (.bool n1) := cell_blk hS2 0
      have g1 : wt11.cell? ⟨w.heap.size + 1, 1, none⟩ = some (.int .u64 h1) := cell_blk hS2 1
      have g2 : wt11.cell? ⟨w.heap.size + 1, 2, none⟩ = some (.int .u64 l1) := cell_blk hS2 2
      have g3 : wt11.cell? ⟨w.heap.size + 1, 3, none⟩ = some (.int .i64 d1) := cell_blk hS2 3
      clear hR2 hS2 hHeld
      go_wp2_with fail
      (try simp only [Exit.inBlock, Exit.then])
      refine bodyPost_ret (v := .tuple #[.agg #[.bool n0, .int .u64 h0, .int .u64 l0, .int .i64 d0], .agg #[.bool n1, .int .u64 h1, .int .u64 l1, .int .i64 d1]]) ?_ rfl ⟨⟨_, _, _, _, _, _, _, _, ⟨hh, hl, hd⟩, ⟨hh1, hl1, hd1⟩, rfl⟩, HT.out⟩
      rw [results_cells2 rfl]
      go_simp
  · skip
    obtain ⟨m1, x1, y1, b, hx, hy, hE⟩ := add_any n0 h0 l0 false 0 1
    have HE := Lib.hid hE
    clear hE
    have HW := Lib.hid (show wideC 1 = .agg #[.bool false, .int .u64 0, .int .u64 1] by simp [wideC])
    have hc := hc3
    clear hc3
    go_wp2_with fail
    have hDD : w3.drew.cell? ⟨w2.heap.size, 0, none⟩ = some (.bool n0) ∧ w3.drew.cell? ⟨w2.heap.size, 1, none⟩ = some (.int .u64 h0) ∧ w3.drew.cell? ⟨w2.heap.size, 2, none⟩ = some (.int .u64 l0) ∧ w3.drew.cell? ⟨w2.heap.size, 3, none⟩ = some (.int .i64 d0) := ⟨cell_blk (w := w3) hF 0, cell_blk (w := w3) hF 1, cell_blk (w := w3) hF 2, cell_blk (w := w3) hF 3⟩
    refine wp_region_noPanic ?_
    refine wp_region_held_drew (S := (fun w' => w'.cell? ⟨w2.heap.size, 0, none⟩ = some (.bool n0) ∧ w'.cell? ⟨w2.heap.size, 1, none⟩ = some (.int .u64 h0) ∧ w'.cell? ⟨w2.heap.size, 2, none⟩ = some (.int .u64 l0) ∧ w'.cell? ⟨w2.heap.size, 3, none⟩ = some (.int .i64 d0))) (by kernel_rfl) hDD (fun hHeld => ?_)
    clear hDD
    replace hF : w3.drew.heap[w2.heap.size]? = _ := hF
    replace hc := Cur.drew hc
    generalize w3.drew = wd12 at hF hc hHeld ⊢
    refine wpAnyH_take (i := 0) (oi := ?o11) (v := ?v11) ?hi11 ?hs11 ?hf11 ?hr11 ?hQ11 ?hy11 ?hS11 ?rest11
    case hi11 => rfl
    case hs11 => kernel_rfl
    case hf11 => kernel_rfl
    case hr11 => kernel_rfl
    case hQ11 => exact fun _ _ _ h => h
    case hS11 => assumption
    case hy11 =>
      refine Or.inl ⟨by kernel_rfl, ?_⟩
      intro w' hSw
      (try dsimp only at hSw)
      go_simp
      (try rfl)
    (try simp only [List.getElem_toArray, List.getElem_cons_zero, Act.put, List.setIfInBounds_toArray, List.set_cons_zero, List.set_cons_succ])
    refine wpAnyH_take (i := 1) (oi := ?o12) (v := ?v12) ?hi12 ?hs12 ?hf12 ?hr12 ?hQ12 ?hy12 ?hS12 ?rest12
    case hi12 => rfl
    case hs12 => kernel_rfl
    case hf12 => kernel_rfl
    case hr12 => kernel_rfl
    case hQ12 => exact fun _ _ _ h => h
    case hS12 => assumption
    case hy12 =>
      refine Or.inl ⟨by kernel_rfl, ?_⟩
      intro w' hSw
      (try dsimp only at hSw)
      go_simp
      (try rfl)
    (try simp only [List.getElem_toArray, List.getElem_cons_succ, List.getElem_cons_zero, Act.put, List.setIfInBounds_toArray, List.set_cons_zero, List.set_cons_succ])
    refine wpAnyH_ready (rs := [2, 7]) (by kernel_rfl) (by simp) ?_
    refine AllReadyH.cons rfl (fun K hK => ?_) (AllReadyH.cons rfl (fun K hK => ?_) AllReadyH.nil)
    · skip
      go_simp
      refine (specWideOfW 1 (by omega) (by omega) _).mono ?_
      rintro e wc13 ⟨rfl, hBc⟩
      rw [HW.out]
      replace hF := box_still hF hBc
      replace hc := hc.still hBc
      clear hBc
      refine hK.out _ _ ?_ (fun hHeld => ?_)
      · exact ⟨cell_blk hF 0, cell_blk hF 1, cell_blk hF 2, cell_blk hF 3⟩
      clear hK K
      (try simp only [List.getElem_toArray, List.getElem_cons_succ, List.getElem_cons_zero, Act.put, List.setIfInBounds_toArray, List.set_cons_zero, List.set_cons_succ])
      refine wpAnyH_ready (rs := [3, 7]) (by kernel_rfl) (by simp) ?_
      refine AllReadyH.cons rfl (fun K hK => ?_) (AllReadyH.cons rfl (fun K hK => ?_) AllReadyH.nil)
      · skip
        go_simp
        refine (specAddWide n0 h0 l0 false 0 1 hh.1 (by omega) hl.1 hl.2 (by omega) (by omega) _).mono ?_
        rintro e wc14 ⟨rfl, hBc⟩
        rw [HE.out]
        replace hF := box_still hF hBc
        replace hc := hc.still hBc
        clear hBc
        refine hK.out _ _ ?_ (fun hHeld => ?_)
        · exact ⟨cell_blk hF 0, cell_blk hF 1, cell_blk hF 2, cell_blk hF 3⟩
        clear hK K
        (try simp only [List.getElem_toArray, List.getElem_cons_succ, List.getElem_cons_zero, Act.put, List.setIfInBounds_toArray, List.set_cons_zero, List.set_cons_succ])
        refine wpAnyH_take (i := 4) (oi := ?o13) (v := ?v13) ?hi13 ?hs13 ?hf13 ?hr13 ?hQ13 ?hy13 ?hS13 ?rest13
        case hi13 => rfl
        case hs13 => kernel_rfl
        case hf13 => kernel_rfl
        case hr13 => kernel_rfl
        case hQ13 => exact fun _ _ _ h => h
        case hS13 => assumption
        case hy13 =>
          refine Or.inl ⟨by kernel_rfl, ?_⟩
          intro w' hSw
          (try dsimp only at hSw)
          go_simp
          (try rfl)
        (try simp only [List.getElem_toArray, List.getElem_cons_succ, List.getElem_cons_zero, Act.put, List.setIfInBounds_toArray, List.set_cons_zero, List.set_cons_succ])
        refine wpAnyH_take (i := 5) (oi := ?o14) (v := ?v14) ?hi14 ?hs14 ?hf14 ?hr14 ?hQ14 ?hy14 ?hS14 ?rest14
        case hi14 => rfl
        case hs14 => kernel_rfl
        case hf14 => kernel_rfl
        case hr14 => kernel_rfl
        case hQ14 => exact fun _ _ _ h => h
        case hS14 => assumption
        case hy14 =>
          refine Or.inl ⟨by kernel_rfl, ?_⟩
          intro w' hSw
          (try dsimp only at hSw)
          go_simp
          (try rfl)
        (try simp only [List.getElem_toArray, List.getElem_cons_succ, List.getElem_cons_zero, Act.put, List.setIfInBounds_toArray, List.set_cons_zero, List.set_cons_succ])
        refine wpAnyH_take (i := 6) (oi := ?o15) (v := ?v15) ?hi15 ?hs15 ?hf15 ?hr15 ?hQ15 ?hy15 ?hS15 ?rest15
        case hi15 => rfl
        case hs15 => kernel_rfl
        case hf15 => kernel_rfl
        case hr15 => kernel_rfl
        case hQ15 => exact fun _ _ _ h => h
        case hS15 => assumption
        case hy15 =>
          refine Or.inl ⟨by kernel_rfl, ?_⟩
          intro w' hSw
          (try dsimp only at hSw)
          go_simp
          (try rfl)
        (try simp only [List.getElem_toArray, List.getElem_cons_succ, List.getElem_cons_zero, Act.put, List.setIfInBounds_toArray, List.set_cons_zero, List.set_cons_succ])
        refine wpAnyH_ready (rs := [7]) (by kernel_rfl) (by simp) ?_
        refine AllReadyH.cons rfl (fun K hK => ?_) AllReadyH.nil
        go_simp
        have hX := box_new wc14 (.cells #[.bool false, .int .u64 0, .int .u64 0] 26)
        have hlx : w2.heap.size < wc14.heap.size := blkF hF
        replace hF := blkAl hF (.cells #[.bool false, .int .u64 0, .int .u64 0] 26)
        replace hc := hc.alloc (.cells #[.bool false, .int .u64 0, .int .u64 0] 26)
        refine hK.out _ _ ?_ (fun hHeld => ?_)
        · exact ⟨cell_blk hF 0, cell_blk hF 1, cell_blk hF 2, cell_blk hF 3⟩
        clear hK K
        (try simp only [List.getElem_toArray, List.getElem_cons_succ, List.getElem_cons_zero, Act.put, List.setIfInBounds_toArray, List.set_cons_zero, List.set_cons_succ])
        generalize (wc14.alloc (.cells #[.bool false, .int .u64 0, .int .u64 0] 26)) = wa15 at hX hF hc hHeld ⊢
        generalize wc14.heap.size = X1 at hX hlx ⊢
        have cN0 : wa15.cell? ⟨X1, 0, none⟩ = some (.bool false) := cell_blk hX 0
        have cN1 : wa15.cell? ⟨X1, 1, none⟩ = some (.int .u64 0) := cell_blk hX 1
        have cN2 : wa15.cell? ⟨X1, 2, none⟩ = some (.int .u64 0) := cell_blk hX 2
        have fN := free_blk hX
        have lN := blkF hX
        refine wpAnyH_ready (rs := [8]) (by kernel_rfl) (by simp) ?_
        refine AllReadyH.cons rfl (fun K hK => ?_) AllReadyH.nil
        go_simp
        replace hF := (st3_blk_farT (.bool m1) (.int .u64 x1) (.int .u64 y1) (show X1 ≠ w2.heap.size by omega)).trans hF
        replace hc := ((hc.set (b := X1) (k := 0) (x := .bool m1) (by omega) (by rw [hsz]; omega)).set (b := X1) (k := 1) (x := .int .u64 x1) (by omega) (by rw [hsz]; omega)).set (b := X1) (k := 2) (x := .int .u64 y1) (by omega) (by rw [hsz]; omega)
        have hX2 := st3_blkT (b0 := .bool m1) (b1 := .int .u64 x1) (b2 := .int .u64 y1) hX
        clear hX cN0 cN1 cN2 fN lN
        refine hK.out _ _ ?_ (fun hHeld => ?_)
        · exact ⟨cell_blk hF 0, cell_blk hF 1, cell_blk hF 2, cell_blk hF 3⟩
        clear hK K
        (try simp only [List.getElem_toArray, List.getElem_cons_succ, List.getElem_cons_zero, Act.put, List.setIfInBounds_toArray, List.set_cons_zero, List.set_cons_succ])
        generalize (((wa15.setCell ⟨X1, 0, none⟩ (.bool m1)).setCell ⟨X1, 1, none⟩ (.int .u64 x1)).setCell ⟨X1, 2, none⟩ (.int .u64 y1)) = ws16 at hF hc hX2 hHeld ⊢
        have hX := hX2
        clear hX2
        refine wpAnyH_take (i := 9) (oi := ?o16) (v := ?v16) ?hi16 ?hs16 ?hf16 ?hr16 ?hQ16 ?hy16 ?hS16 ?rest16
        case hi16 => rfl
        case hs16 => kernel_rfl
        case hf16 => kernel_rfl
        case hr16 => kernel_rfl
        case hQ16 => exact fun _ _ _ h => h
        case hS16 => assumption
        case hy16 =>
          refine Or.inl ⟨by kernel_rfl, ?_⟩
          intro w' hSw
          (try dsimp only at hSw)
          go_simp
          (try rfl)
        (try simp only [List.getElem_toArray, List.getElem_cons_succ, List.getElem_cons_zero, Act.put, List.setIfInBounds_toArray, List.set_cons_zero, List.set_cons_succ])
        refine wpAnyH_done (by kernel_rfl) ?_ _
        refine NoPanic.normal ?_
        cases b with
        | true =>
          go_wp2_with fail
          have hDD : ws16.drew.cell? ⟨w2.heap.size, 0, none⟩ = some (.bool n0) ∧ ws16.drew.cell? ⟨w2.heap.size, 1, none⟩ = some (.int .u64 h0) ∧ ws16.drew.cell? ⟨w2.heap.size, 2, none⟩ = some (.int .u64 l0) ∧ ws16.drew.cell? ⟨w2.heap.size, 3, none⟩ = some (.int .i64 d0) ∧ ws16.drew.cell? ⟨X1, 0, none⟩ = some (.bool m1) ∧ ws16.drew.cell? ⟨X1, 1, none⟩ = some (.int .u64 x1) ∧ ws16.drew.cell? ⟨X1, 2, none⟩ = some (.int .u64 y1) := ⟨cell_blk (w := ws16) hF 0, cell_blk (w := ws16) hF 1, cell_blk (w := ws16) hF 2, cell_blk (w := ws16) hF 3, cell_blk (w := ws16) hX 0, cell_blk (w := ws16) hX 1, cell_blk (w := ws16) hX 2⟩
          refine wp_region_noPanic ?_
          refine wp_region_held_drew (S := (fun w' => w'.cell? ⟨w2.heap.size, 0, none⟩ = some (.bool n0) ∧ w'.cell? ⟨w2.heap.size, 1, none⟩ = some (.int .u64 h0) ∧ w'.cell? ⟨w2.heap.size, 2, none⟩ = some (.int .u64 l0) ∧ w'.cell? ⟨w2.heap.size, 3, none⟩ = some (.int .i64 d0) ∧ w'.cell? ⟨X1, 0, none⟩ = some (.bool m1) ∧ w'.cell? ⟨X1, 1, none⟩ = some (.int .u64 x1) ∧ w'.cell? ⟨X1, 2, none⟩ = some (.int .u64 y1))) (by kernel_rfl) hDD (fun hHeld => ?_)
          clear hDD
          replace hF : ws16.drew.heap[w2.heap.size]? = _ := hF
          replace hX : ws16.drew.heap[X1]? = _ := hX
          replace hc := Cur.drew hc
          generalize ws16.drew = wd17 at hF hX hc hHeld ⊢
          refine wpAnyH_take (i := 0) (oi := ?o17) (v := ?v17) ?hi17 ?hs17 ?hf17 ?hr17 ?hQ17 ?hy17 ?hS17 ?rest17
          case hi17 => rfl
          case hs17 => kernel_rfl
          case hf17 => kernel_rfl
          case hr17 => kernel_rfl
          case hQ17 => exact fun _ _ _ h => h
          case hS17 => assumption
          case hy17 =>
            refine Or.inl ⟨by kernel_rfl, ?_⟩
            intro w' hSw
            (try dsimp only at hSw)
            go_simp
            (try rfl)
          (try simp only [List.getElem_toArray, List.getElem_cons_zero, Act.put, List.setIfInBounds_toArray, List.set_cons_zero, List.set_cons_succ])
          refine wpAnyH_take (i := 1) (oi := ?o18) (v := ?v18) ?hi18 ?hs18 ?hf18 ?hr18 ?hQ18 ?hy18 ?hS18 ?rest18
          case hi18 => rfl
          case hs18 => kernel_rfl
          case hf18 => kernel_rfl
          case hr18 => kernel_rfl
          case hQ18 => exact fun _ _ _ h => h
          case hS18 => assumption
          case hy18 =>
            refine Or.inl ⟨by kernel_rfl, ?_⟩
            intro w' hSw
            (try dsimp only at hSw)
            go_simp
            (try rfl)
          (try simp only [List.getElem_toArray, List.getElem_cons_succ, List.getElem_cons_zero, Act.put, List.setIfInBounds_toArray, List.set_cons_zero, List.set_cons_succ])
          refine wpAnyH_take (i := 2) (oi := ?o19) (v := ?v19) ?hi19 ?hs19 ?hf19 ?hr19 ?hQ19 ?hy19 ?hS19 ?rest19
          case hi19 => rfl
          case hs19 => kernel_rfl
          case hf19 => kernel_rfl
          case hr19 => kernel_rfl
          case hQ19 => exact fun _ _ _ h => h
          case hS19 => assumption
          case hy19 =>
            refine Or.inl ⟨by kernel_rfl, ?_⟩
            intro w' hSw
            (try dsimp only at hSw)
            go_simp
            (try rfl)
          (try simp only [List.getElem_toArray, List.getElem_cons_succ, List.getElem_cons_zero, Act.put, List.setIfInBounds_toArray, List.set_cons_zero, List.set_cons_succ])
          refine wpAnyH_take (i := 3) (oi := ?o20) (v := ?v20) ?hi20 ?hs20 ?hf20 ?hr20 ?hQ20 ?hy20 ?hS20 ?rest20
          case hi20 => rfl
          case hs20 => kernel_rfl
          case hf20 => kernel_rfl
          case hr20 => kernel_rfl
          case hQ20 => exact fun _ _ _ h => h
          case hS20 => assumption
          case hy20 =>
            refine Or.inl ⟨by kernel_rfl, ?_⟩
            intro w' hSw
            (try dsimp only at hSw)
            go_simp
            (try rfl)
          (try simp only [List.getElem_toArray, List.getElem_cons_succ, List.getElem_cons_zero, Act.put, List.setIfInBounds_toArray, List.set_cons_zero, List.set_cons_succ])
          refine wpAnyH_take (i := 4) (oi := ?o21) (v := ?v21) ?hi21 ?hs21 ?hf21 ?hr21 ?hQ21 ?hy21 ?hS21 ?rest21
          case hi21 => rfl
          case hs21 => kernel_rfl
          case hf21 => kernel_rfl
          case hr21 => kernel_rfl
          case hQ21 => exact fun _ _ _ h => h
          case hS21 => assumption
          case hy21 =>
            refine Or.inl ⟨by kernel_rfl, ?_⟩
            intro w' hSw
            (try dsimp only at hSw)
            go_simp
            (try rfl)
          (try simp only [List.getElem_toArray, List.getElem_cons_succ, List.getElem_cons_zero, Act.put, List.setIfInBounds_toArray, List.set_cons_zero, List.set_cons_succ])
          obtain ⟨hR, hS, hBB, _⟩ := box2 (cur_below hc)
          have HT := Lib.hid hBB
          clear hBB hc
          have cR0 : wd17.cell? ⟨w.heap.size, 0, none⟩ = some (.bool false) := cell_blk hR 0
          have cR1 : wd17.cell? ⟨w.heap.size, 1, none⟩ = some (.int .u64 0) := cell_blk hR 1
          have cR2 : wd17.cell? ⟨w.heap.size, 2, none⟩ = some (.int .u64 0) := cell_blk hR 2
          have cR3 : wd17.cell? ⟨w.heap.size, 3, none⟩ = some (.int .i64 0) := cell_blk hR 3
          have fR := free_blk hR
          have lR := blkF hR
          refine wpAnyH_ready (rs := [5]) (by kernel_rfl) (by simp) ?_
          refine AllReadyH.cons rfl (fun K hK => ?_) AllReadyH.nil
          go_simp
          replace hF := (st4_blk_farF (.bool n0) (.int .u64 h0) (.int .u64 l0) (.int .i64 d0) (show w.heap.size ≠ w2.heap.size by omega)).trans hF
          replace hX := (st4_blk_farF (.bool n0) (.int .u64 h0) (.int .u64 l0) (.int .i64 d0) (show w.heap.size ≠ X1 by omega)).trans hX
          replace hS := (st4_blk_farF (.bool n0) (.int .u64 h0) (.int .u64 l0) (.int .i64 d0) (show w.heap.size ≠ w.heap.size + 1 by omega)).trans hS
          have hR2 := st4_blkF (b0 := .bool n0) (b1 := .int .u64 h0) (b2 := .int .u64 l0) (b3 := .int .i64 d0) hR
          replace HT := Lib.hid (st4_belowF (X := w.heap.size) HT.out (by omega) (.bool n0) (.int .u64 h0) (.int .u64 l0) (.int .i64 d0))
          clear hR cR0 cR1 cR2 cR3 fR lR
          refine hK.out _ _ ?_ (fun hHeld => ?_)
          · exact ⟨cell_blk hF 0, cell_blk hF 1, cell_blk hF 2, cell_blk hF 3, cell_blk hX 0, cell_blk hX 1, cell_blk hX 2⟩
          clear hK K
          (try simp only [List.getElem_toArray, List.getElem_cons_succ, List.getElem_cons_zero, Act.put, List.setIfInBounds_toArray, List.set_cons_zero, List.set_cons_succ])
          generalize ((((wd17.setCell ⟨w.heap.size, 0, none⟩ (.bool n0)).setCell ⟨w.heap.size, 1, none⟩ (.int .u64 h0)).setCell ⟨w.heap.size, 2, none⟩ (.int .u64 l0)).setCell ⟨w.heap.size, 3, none⟩ (.int .i64 d0)) = ws18 at hF hX hS hR2 HT hHeld ⊢
          have cS0 : ws18.cell? ⟨w.heap.size + 1, 0, none⟩ = some (.bool false) := cell_blk hS 0
          have cS1 : ws18.cell? ⟨w.heap.size + 1, 1, none⟩ = some (.int .u64 0) := cell_blk hS 1
          have cS2 : ws18.cell? ⟨w.heap.size + 1, 2, none⟩ = some (.int .u64 0) := cell_blk hS 2
          have cS3 : ws18.cell? ⟨w.heap.size + 1, 3, none⟩ = some (.int .i64 0) := cell_blk hS 3
          have fS := free_blk hS
          have lS := blkF hS
          refine wpAnyH_ready (rs := [6]) (by kernel_rfl) (by simp) ?_
          refine AllReadyH.cons rfl (fun K hK => ?_) AllReadyH.nil
          go_simp
          replace hF := (st4_blk_farF (.bool m1) (.int .u64 x1) (.int .u64 y1) (.int .i64 d0) (show w.heap.size + 1 ≠ w2.heap.size by omega)).trans hF
          replace hX := (st4_blk_farF (.bool m1) (.int .u64 x1) (.int .u64 y1) (.int .i64 d0) (show w.heap.size + 1 ≠ X1 by omega)).trans hX
          replace hR2 := (st4_blk_farF (.bool m1) (.int .u64 x1) (.int .u64 y1) (.int .i64 d0) (show w.heap.size + 1 ≠ w.heap.size by omega)).trans hR2
          have hS2 := st4_blkF (b0 := .bool m1) (b1 := .int .u64 x1) (b2 := .int .u64 y1) (b3 := .int .i64 d0) hS
          replace HT := Lib.hid (st4_belowF (X := w.heap.size + 1) HT.out (by omega) (.bool m1) (.int .u64 x1) (.int .u64 y1) (.int .i64 d0))
          clear hS cS0 cS1 cS2 cS3 fS lS
          refine hK.out _ _ ?_ (fun hHeld => ?_)
          · exact ⟨cell_blk hF 0, cell_blk hF 1, cell_blk hF 2, cell_blk hF 3, cell_blk hX 0, cell_blk hX 1, cell_blk hX 2⟩
          clear hK K
          (try simp only [List.getElem_toArray, List.getElem_cons_succ, List.getElem_cons_zero, Act.put, List.setIfInBounds_toArray, List.set_cons_zero, List.set_cons_succ])
          generalize ((((ws18.setCell ⟨w.heap.size + 1, 0, none⟩ (.bool m1)).setCell ⟨w.heap.size + 1, 1, none⟩ (.int .u64 x1)).setCell ⟨w.heap.size + 1, 2, none⟩ (.int .u64 y1)).setCell ⟨w.heap.size + 1, 3, none⟩ (.int .i64 d0)) = wt19 at hF hX hS2 hR2 HT hHeld ⊢
          refine wpAnyH_done (by kernel_rfl) ?_ _
          refine NoPanic.normal ?_
          have e0 : wt19.cell? ⟨w.heap.size, 0, none⟩ = some (.bool n0) := cell_blk hR2 0
          have e1 : wt19.cell? ⟨w.heap.size, 1, none⟩ = some (.int .u64 h0) := cell_blk hR2 1
          have e2 : wt19.cell? ⟨w.heap.size, 2, none⟩ = some (.int .u64 l0) := cell_blk hR2 2
          have e3 : wt19.cell? ⟨w.heap.size, 3, none⟩ = some (.int .i64 d0) := cell_blk hR2 3
          have g0 : wt19.cell? ⟨w.heap.size + 1, 0, none⟩ = some (.bool m1) := cell_blk hS2 0
          have g1 : wt19.cell? ⟨w.heap.size + 1, 1, none⟩ = some (.int .u64 x1) := cell_blk hS2 1
          have g2 : wt19.cell? ⟨w.heap.size + 1, 2, none⟩ = some (.int .u64 y1) := cell_blk hS2 2
          have g3 : wt19.cell? ⟨w.heap.size + 1, 3, none⟩ = some (.int .i64 d0) := cell_blk hS2 3
          clear hR2 hS2 hHeld
          go_wp2_with fail
          (try simp only [Exit.inBlock, Exit.then])
          refine bodyPost_ret (v := .tuple #[.agg #[.bool n0, .int .u64 h0, .int .u64 l0, .int .i64 d0], .agg #[.bool m1, .int .u64 x1, .int .u64 y1, .int .i64 d0]]) ?_ rfl ⟨⟨_, _, _, _, _, _, _, _, ⟨hh, hl, hd⟩, ⟨hx, hy, hd⟩, rfl⟩, HT.out⟩
          rw [results_cells2 rfl]
          go_simp
        | false =>
          go_wp2_with fail
          have hDD : ws16.drew.cell? ⟨w2.heap.size, 0, none⟩ = some (.bool n0) ∧ ws16.drew.cell? ⟨w2.heap.size, 1, none⟩ = some (.int .u64 h0) ∧ ws16.drew.cell? ⟨w2.heap.size, 2, none⟩ = some (.int .u64 l0) ∧ ws16.drew.cell? ⟨w2.heap.size, 3, none⟩ = some (.int .i64 d0) := ⟨cell_blk (w := ws16) hF 0, cell_blk (w := ws16) hF 1, cell_blk (w := ws16) hF 2, cell_blk (w := ws16) hF 3⟩
          refine wp_region_noPanic ?_
          refine wp_region_held_drew (S := (fun w' => w'.cell? ⟨w2.heap.size, 0, none⟩ = some (.bool n0) ∧ w'.cell? ⟨w2.heap.size, 1, none⟩ = some (.int .u64 h0) ∧ w'.cell? ⟨w2.heap.size, 2, none⟩ = some (.int .u64 l0) ∧ w'.cell? ⟨w2.heap.size, 3, none⟩ = some (.int .i64 d0))) (by kernel_rfl) hDD (fun hHeld => ?_)
          clear hDD
          replace hF : ws16.drew.heap[w2.heap.size]? = _ := hF
          replace hc := Cur.drew hc
          generalize ws16.drew = wd20 at hF hc hHeld ⊢
          refine wpAnyH_take (i := 0) (oi := ?o22) (v := ?v22) ?hi22 ?hs22 ?hf22 ?hr22 ?hQ22 ?hy22 ?hS22 ?rest22
          case hi22 => rfl
          case hs22 => kernel_rfl
          case hf22 => kernel_rfl
          case hr22 => kernel_rfl
          case hQ22 => exact fun _ _ _ h => h
          case hS22 => assumption
          case hy22 =>
            refine Or.inl ⟨by kernel_rfl, ?_⟩
            intro w' hSw
            (try dsimp only at hSw)
            go_simp
            (try rfl)
          (try simp only [List.getElem_toArray, List.getElem_cons_zero, Act.put, List.setIfInBounds_toArray, List.set_cons_zero, List.set_cons_succ])
          refine wpAnyH_take (i := 1) (oi := ?o23) (v := ?v23) ?hi23 ?hs23 ?hf23 ?hr23 ?hQ23 ?hy23 ?hS23 ?rest23
          case hi23 => rfl
          case hs23 => kernel_rfl
          case hf23 => kernel_rfl
          case hr23 => kernel_rfl
          case hQ23 => exact fun _ _ _ h => h
          case hS23 => assumption
          case hy23 =>
            refine Or.inl ⟨by kernel_rfl, ?_⟩
            intro w' hSw
            (try dsimp only at hSw)
            go_simp
            (try rfl)
          (try simp only [List.getElem_toArray, List.getElem_cons_succ, List.getElem_cons_zero, Act.put, List.setIfInBounds_toArray, List.set_cons_zero, List.set_cons_succ])
          refine wpAnyH_ready (rs := [2]) (by kernel_rfl) (by simp) ?_
          refine AllReadyH.cons rfl (fun K hK => ?_) AllReadyH.nil
          go_simp
          refine (l5Frac ((w.alloc (.cells #[.bool false, .int .u64 0, .int .u64 0, .int .i64 0] 28)).alloc (.cells #[.bool false, .int .u64 0, .int .u64 0, .int .i64 0] 28)) _ _ hc).mono ?_
          rintro e wf21 ⟨⟨n1, h1, l1, d1, hh1, hl1, hd1, rfl⟩, hcf, hgf⟩
          replace hF := blk_grown hF hgf (by omega)
          clear hgf hc
          have hc := hcf
          clear hcf
          refine hK.out _ _ ?_ (fun hHeld => ?_)
          · exact ⟨cell_blk hF 0, cell_blk hF 1, cell_blk hF 2, cell_blk hF 3⟩
          clear hK K
          (try simp only [List.getElem_toArray, List.getElem_cons_succ, List.getElem_cons_zero, Act.put, List.setIfInBounds_toArray, List.set_cons_zero, List.set_cons_succ])
          obtain ⟨hR, hS, hBB, _⟩ := box2 (cur_below hc)
          have HT := Lib.hid hBB
          clear hBB hc
          have cR0 : wf21.cell? ⟨w.heap.size, 0, none⟩ = some (.bool false) := cell_blk hR 0
          have cR1 : wf21.cell? ⟨w.heap.size, 1, none⟩ = some (.int .u64 0) := cell_blk hR 1
          have cR2 : wf21.cell? ⟨w.heap.size, 2, none⟩ = some (.int .u64 0) := cell_blk hR 2
          have cR3 : wf21.cell? ⟨w.heap.size, 3, none⟩ = some (.int .i64 0) := cell_blk hR 3
          have fR := free_blk hR
          have lR := blkF hR
          refine wpAnyH_ready (rs := [3]) (by kernel_rfl) (by simp) ?_
          refine AllReadyH.cons rfl (fun K hK => ?_) AllReadyH.nil
          go_simp
          replace hF := (st4_blk_farF (.bool n0) (.int .u64 h0) (.int .u64 l0) (.int .i64 d0) (show w.heap.size ≠ w2.heap.size by omega)).trans hF
          replace hS := (st4_blk_farF (.bool n0) (.int .u64 h0) (.int .u64 l0) (.int .i64 d0) (show w.heap.size ≠ w.heap.size + 1 by omega)).trans hS
          have hR2 := st4_blkF (b0 := .bool n0) (b1 := .int .u64 h0) (b2 := .int .u64 l0) (b3 := .int .i64 d0) hR
          replace HT := Lib.hid (st4_belowF (X := w.heap.size) HT.out (by omega) (.bool n0) (.int .u64 h0) (.int .u64 l0) (.int .i64 d0))
          clear hR cR0 cR1 cR2 cR3 fR lR
          refine hK.out _ _ ?_ (fun hHeld => ?_)
          · exact ⟨cell_blk hF 0, cell_blk hF 1, cell_blk hF 2, cell_blk hF 3⟩
          clear hK K
          (try simp only [List.getElem_toArray, List.getElem_cons_succ, List.getElem_cons_zero, Act.put, List.setIfInBounds_toArray, List.set_cons_zero, List.set_cons_succ])
          generalize ((((wf21.setCell ⟨w.heap.size, 0, none⟩ (.bool n0)).setCell ⟨w.heap.size, 1, none⟩ (.int .u64 h0)).setCell ⟨w.heap.size, 2, none⟩ (.int .u64 l0)).setCell ⟨w.heap.size, 3, none⟩ (.int .i64 d0)) = ws22 at hF hS hR2 HT hHeld ⊢
          have cS0 : ws22.cell? ⟨w.heap.size + 1, 0, none⟩ = some (.bool false) := cell_blk hS 0
          have cS1 : ws22.cell? ⟨w.heap.size + 1, 1, none⟩ = some (.int .u64 0) := cell_blk hS 1
          have cS2 : ws22.cell? ⟨w.heap.size + 1, 2, none⟩ = some (.int .u64 0) := cell_blk hS 2
          have cS3 : ws22.cell? ⟨w.heap.size + 1, 3, none⟩ = some (.int .i64 0) := cell_blk hS 3
          have fS := free_blk hS
          have lS := blkF hS
          refine wpAnyH_ready (rs := [4]) (by kernel_rfl) (by simp) ?_
          refine AllReadyH.cons rfl (fun K hK => ?_) AllReadyH.nil
          go_simp
          replace hF := (st4_blk_farF (.bool n1) (.int .u64 h1) (.int .u64 l1) (.int .i64 d1) (show w.heap.size + 1 ≠ w2.heap.size by omega)).trans hF
          replace hR2 := (st4_blk_farF (.bool n1) (.int .u64 h1) (.int .u64 l1) (.int .i64 d1) (show w.heap.size + 1 ≠ w.heap.size by omega)).trans hR2
          have hS2 := st4_blkF (b0 := .bool n1) (b1 := .int .u64 h1) (b2 := .int .u64 l1) (b3 := .int .i64 d1) hS
          replace HT := Lib.hid (st4_belowF (X := w.heap.size + 1) HT.out (by omega) (.bool n1) (.int .u64 h1) (.int .u64 l1) (.int .i64 d1))
          clear hS cS0 cS1 cS2 cS3 fS lS
          refine hK.out _ _ ?_ (fun hHeld => ?_)
          · exact ⟨cell_blk hF 0, cell_blk hF 1, cell_blk hF 2, cell_blk hF 3⟩
          clear hK K
          (try simp only [List.getElem_toArray, List.getElem_cons_succ, List.getElem_cons_zero, Act.put, List.setIfInBounds_toArray, List.set_cons_zero, List.set_cons_succ])
          generalize ((((ws22.setCell ⟨w.heap.size + 1, 0, none⟩ (.bool n1)).setCell ⟨w.heap.size + 1, 1, none⟩ (.int .u64 h1)).setCell ⟨w.heap.size + 1, 2, none⟩ (.int .u64 l1)).setCell ⟨w.heap.size + 1, 3, none⟩ (.int .i64 d1)) = wt23 at hF hS2 hR2 HT hHeld ⊢
          refine wpAnyH_done (by kernel_rfl) ?_ _
          refine NoPanic.normal ?_
          have e0 : wt23.cell? ⟨w.heap.size, 0, none⟩ = some (.bool n0) := cell_blk hR2 0
          have e1 : wt23.cell? ⟨w.heap.size, 1, none⟩ = some (.int .u64 h0) := cell_blk hR2 1
          have e2 : wt23.cell? ⟨w.heap.size, 2, none⟩ = some (.int .u64 l0) := cell_blk hR2 2
          have e3 : wt23.cell? ⟨w.heap.size, 3, none⟩ = some (.int .i64 d0) := cell_blk hR2 3
          have g0 : wt23.cell? ⟨w.heap.size + 1, 0, none⟩ = some (.bool n1) := cell_blk hS2 0
          have g1 : wt23.cell? ⟨w.heap.size + 1, 1, none⟩ = some (.int .u64 h1) := cell_blk hS2 1
          have g2 : wt23.cell? ⟨w.heap.size + 1, 2, none⟩ = some (.int .u64 l1) := cell_blk hS2 2
          have g3 : wt23.cell? ⟨w.heap.size + 1, 3, none⟩ = some (.int .i64 d1) := cell_blk hS2 3
          clear hR2 hS2 hHeld
          go_wp2_with fail
          (try simp only [Exit.inBlock, Exit.then])
          refine bodyPost_ret (v := .tuple #[.agg #[.bool n0, .int .u64 h0, .int .u64 l0, .int .i64 d0], .agg #[.bool n1, .int .u64 h1, .int .u64 l1, .int .i64 d1]]) ?_ rfl ⟨⟨_, _, _, _, _, _, _, _, ⟨hh, hl, hd⟩, ⟨hh1, hl1, hd1⟩, rfl⟩, HT.out⟩
          rw [results_cells2 rfl]
          go_simp
      · skip
        go_simp
        have hX := box_new wc13 (.cells #[.bool false, .int .u64 0, .int .u64 0] 26)
        have hlx : w2.heap.size < wc13.heap.size := blkF hF
        replace hF := blkAl hF (.cells #[.bool false, .int .u64 0, .int .u64 0] 26)
        replace hc := hc.alloc (.cells #[.bool false, .int .u64 0, .int .u64 0] 26)
        refine hK.out _ _ ?_ (fun hHeld => ?_)
        · exact ⟨cell_blk hF 0, cell_blk hF 1, cell_blk hF 2, cell_blk hF 3⟩
        clear hK K
        (try simp only [List.getElem_toArray, List.getElem_cons_succ, List.getElem_cons_zero, Act.put, List.setIfInBounds_toArray, List.set_cons_zero, List.set_cons_succ])
        generalize (wc13.alloc (.cells #[.bool false, .int .u64 0, .int .u64 0] 26)) = wa24 at hX hF hc hHeld ⊢
        generalize wc13.heap.size = X1 at hX hlx ⊢
        refine wpAnyH_ready (rs := [3]) (by kernel_rfl) (by simp) ?_
        refine AllReadyH.cons rfl (fun K hK => ?_) AllReadyH.nil
        go_simp
        refine (specAddWide n0 h0 l0 false 0 1 hh.1 (by omega) hl.1 hl.2 (by omega) (by omega) _).mono ?_
        rintro e wc25 ⟨rfl, hBc⟩
        rw [HE.out]
        replace hF := box_still hF hBc
        replace hc := hc.still hBc
        replace hX := box_still hX hBc
        clear hBc
        refine hK.out _ _ ?_ (fun hHeld => ?_)
        · exact ⟨cell_blk hF 0, cell_blk hF 1, cell_blk hF 2, cell_blk hF 3⟩
        clear hK K
        (try simp only [List.getElem_toArray, List.getElem_cons_succ, List.getElem_cons_zero, Act.put, List.setIfInBounds_toArray, List.set_cons_zero, List.set_cons_succ])
        refine wpAnyH_take (i := 4) (oi := ?o24) (v := ?v24) ?hi24 ?hs24 ?hf24 ?hr24 ?hQ24 ?hy24 ?hS24 ?rest24
        case hi24 => rfl
        case hs24 => kernel_rfl
        case hf24 => kernel_rfl
        case hr24 => kernel_rfl
        case hQ24 => exact fun _ _ _ h => h
        case hS24 => assumption
        case hy24 =>
          refine Or.inl ⟨by kernel_rfl, ?_⟩
          intro w' hSw
          (try dsimp only at hSw)
          go_simp
          (try rfl)
        (try simp only [List.getElem_toArray, List.getElem_cons_succ, List.getElem_cons_zero, Act.put, List.setIfInBounds_toArray, List.set_cons_zero, List.set_cons_succ])
        refine wpAnyH_take (i := 5) (oi := ?o25) (v := ?v25) ?hi25 ?hs25 ?hf25 ?hr25 ?hQ25 ?hy25 ?hS25 ?rest25
        case hi25 => rfl
        case hs25 => kernel_rfl
        case hf25 => kernel_rfl
        case hr25 => kernel_rfl
        case hQ25 => exact fun _ _ _ h => h
        case hS25 => assumption
        case hy25 =>
          refine Or.inl ⟨by kernel_rfl, ?_⟩
          intro w' hSw
          (try dsimp only at hSw)
          go_simp
          (try rfl)
        (try simp only [List.getElem_toArray, List.getElem_cons_succ, List.getElem_cons_zero, Act.put, List.setIfInBounds_toArray, List.set_cons_zero, List.set_cons_succ])
        refine wpAnyH_take (i := 6) (oi := ?o26) (v := ?v26) ?hi26 ?hs26 ?hf26 ?hr26 ?hQ26 ?hy26 ?hS26 ?rest26
        case hi26 => rfl
        case hs26 => kernel_rfl
        case hf26 => kernel_rfl
        case hr26 => kernel_rfl
        case hQ26 => exact fun _ _ _ h => h
        case hS26 => assumption
        case hy26 =>
          refine Or.inl ⟨by kernel_rfl, ?_⟩
          intro w' hSw
          (try dsimp only at hSw)
          go_simp
          (try rfl)
        (try simp only [List.getElem_toArray, List.getElem_cons_succ, List.getElem_cons_zero, Act.put, List.setIfInBounds_toArray, List.set_cons_zero, List.set_cons_succ])
        have cN0 : wc25.cell? ⟨X1, 0, none⟩ = some (.bool false) := cell_blk hX 0
        have cN1 : wc25.cell? ⟨X1, 1, none⟩ = some (.int .u64 0) := cell_blk hX 1
        have cN2 : wc25.cell? ⟨X1, 2, none⟩ = some (.int .u64 0) := cell_blk hX 2
        have fN := free_blk hX
        have lN := blkF hX
        refine wpAnyH_ready (rs := [8]) (by kernel_rfl) (by simp) ?_
        refine AllReadyH.cons rfl (fun K hK => ?_) AllReadyH.nil
        go_simp
        replace hF := (st3_blk_farT (.bool m1) (.int .u64 x1) (.int .u64 y1) (show X1 ≠ w2.heap.size by omega)).trans hF
        replace hc := ((hc.set (b := X1) (k := 0) (x := .bool m1) (by omega) (by rw [hsz]; omega)).set (b := X1) (k := 1) (x := .int .u64 x1) (by omega) (by rw [hsz]; omega)).set (b := X1) (k := 2) (x := .int .u64 y1) (by omega) (by rw [hsz]; omega)
        have hX2 := st3_blkT (b0 := .bool m1) (b1 := .int .u64 x1) (b2 := .int .u64 y1) hX
        clear hX cN0 cN1 cN2 fN lN
        refine hK.out _ _ ?_ (fun hHeld => ?_)
        · exact ⟨cell_blk hF 0, cell_blk hF 1, cell_blk hF 2, cell_blk hF 3⟩
        clear hK K
        (try simp only [List.getElem_toArray, List.getElem_cons_succ, List.getElem_cons_zero, Act.put, List.setIfInBounds_toArray, List.set_cons_zero, List.set_cons_succ])
        generalize (((wc25.setCell ⟨X1, 0, none⟩ (.bool m1)).setCell ⟨X1, 1, none⟩ (.int .u64 x1)).setCell ⟨X1, 2, none⟩ (.int .u64 y1)) = ws26 at hF hc hX2 hHeld ⊢
        have hX := hX2
        clear hX2
        refine wpAnyH_take (i := 9) (oi := ?o27) (v := ?v27) ?hi27 ?hs27 ?hf27 ?hr27 ?hQ27 ?hy27 ?hS27 ?rest27
        case hi27 => rfl
        case hs27 => kernel_rfl
        case hf27 => kernel_rfl
        case hr27 => kernel_rfl
        case hQ27 => exact fun _ _ _ h => h
        case hS27 => assumption
        case hy27 =>
          refine Or.inl ⟨by kernel_rfl, ?_⟩
          intro w' hSw
          (try dsimp only at hSw)
          go_simp
          (try rfl)
        (try simp only [List.getElem_toArray, List.getElem_cons_succ, List.getElem_cons_zero, Act.put, List.setIfInBounds_toArray, List.set_cons_zero, List.set_cons_succ])
        refine wpAnyH_done (by kernel_rfl) ?_ _
        refine NoPanic.normal ?_
        cases b with
        | true =>
          go_wp2_with fail
          have hDD : ws26.drew.cell? ⟨w2.heap.size, 0, none⟩ = some (.bool n0) ∧ ws26.drew.cell? ⟨w2.heap.size, 1, none⟩ = some (.int .u64 h0) ∧ ws26.drew.cell? ⟨w2.heap.size, 2, none⟩ = some (.int .u64 l0) ∧ ws26.drew.cell? ⟨w2.heap.size, 3, none⟩ = some (.int .i64 d0) ∧ ws26.drew.cell? ⟨X1, 0, none⟩ = some (.bool m1) ∧ ws26.drew.cell? ⟨X1, 1, none⟩ = some (.int .u64 x1) ∧ ws26.drew.cell? ⟨X1, 2, none⟩ = some (.int .u64 y1) := ⟨cell_blk (w := ws26) hF 0, cell_blk (w := ws26) hF 1, cell_blk (w := ws26) hF 2, cell_blk (w := ws26) hF 3, cell_blk (w := ws26) hX 0, cell_blk (w := ws26) hX 1, cell_blk (w := ws26) hX 2⟩
          refine wp_region_noPanic ?_
          refine wp_region_held_drew (S := (fun w' => w'.cell? ⟨w2.heap.size, 0, none⟩ = some (.bool n0) ∧ w'.cell? ⟨w2.heap.size, 1, none⟩ = some (.int .u64 h0) ∧ w'.cell? ⟨w2.heap.size, 2, none⟩ = some (.int .u64 l0) ∧ w'.cell? ⟨w2.heap.size, 3, none⟩ = some (.int .i64 d0) ∧ w'.cell? ⟨X1, 0, none⟩ = some (.bool m1) ∧ w'.cell? ⟨X1, 1, none⟩ = some (.int .u64 x1) ∧ w'.cell? ⟨X1, 2, none⟩ = some (.int .u64 y1))) (by kernel_rfl) hDD (fun hHeld => ?_)
          clear hDD
          replace hF : ws26.drew.heap[w2.heap.size]? = _ := hF
          replace hX : ws26.drew.heap[X1]? = _ := hX
          replace hc := Cur.drew hc
          generalize ws26.drew = wd27 at hF hX hc hHeld ⊢
          refine wpAnyH_take (i := 0) (oi := ?o28) (v := ?v28) ?hi28 ?hs28 ?hf28 ?hr28 ?hQ28 ?hy28 ?hS28 ?rest28
          case hi28 => rfl
          case hs28 => kernel_rfl
          case hf28 => kernel_rfl
          case hr28 => kernel_rfl
          case hQ28 => exact fun _ _ _ h => h
          case hS28 => assumption
          case hy28 =>
            refine Or.inl ⟨by kernel_rfl, ?_⟩
            intro w' hSw
            (try dsimp only at hSw)
            go_simp
            (try rfl)
          (try simp only [List.getElem_toArray, List.getElem_cons_zero, Act.put, List.setIfInBounds_toArray, List.set_cons_zero, List.set_cons_succ])
          refine wpAnyH_take (i := 1) (oi := ?o29) (v := ?v29) ?hi29 ?hs29 ?hf29 ?hr29 ?hQ29 ?hy29 ?hS29 ?rest29
          case hi29 => rfl
          case hs29 => kernel_rfl
          case hf29 => kernel_rfl
          case hr29 => kernel_rfl
          case hQ29 => exact fun _ _ _ h => h
          case hS29 => assumption
          case hy29 =>
            refine Or.inl ⟨by kernel_rfl, ?_⟩
            intro w' hSw
            (try dsimp only at hSw)
            go_simp
            (try rfl)
          (try simp only [List.getElem_toArray, List.getElem_cons_succ, List.getElem_cons_zero, Act.put, List.setIfInBounds_toArray, List.set_cons_zero, List.set_cons_succ])
          refine wpAnyH_take (i := 2) (oi := ?o30) (v := ?v30) ?hi30 ?hs30 ?hf30 ?hr30 ?hQ30 ?hy30 ?hS30 ?rest30
          case hi30 => rfl
          case hs30 => kernel_rfl
          case hf30 => kernel_rfl
          case hr30 => kernel_rfl
          case hQ30 => exact fun _ _ _ h => h
          case hS30 => assumption
          case hy30 =>
            refine Or.inl ⟨by kernel_rfl, ?_⟩
            intro w' hSw
            (try dsimp only at hSw)
            go_simp
            (try rfl)
          (try simp only [List.getElem_toArray, List.getElem_cons_succ, List.getElem_cons_zero, Act.put, List.setIfInBounds_toArray, List.set_cons_zero, List.set_cons_succ])
          refine wpAnyH_take (i := 3) (oi := ?o31) (v := ?v31) ?hi31 ?hs31 ?hf31 ?hr31 ?hQ31 ?hy31 ?hS31 ?rest31
          case hi31 => rfl
          case hs31 => kernel_rfl
          case hf31 => kernel_rfl
          case hr31 => kernel_rfl
          case hQ31 => exact fun _ _ _ h => h
          case hS31 => assumption
          case hy31 =>
            refine Or.inl ⟨by kernel_rfl, ?_⟩
            intro w' hSw
            (try dsimp only at hSw)
            go_simp
            (try rfl)
          (try simp only [List.getElem_toArray, List.getElem_cons_succ, List.getElem_cons_zero, Act.put, List.setIfInBounds_toArray, List.set_cons_zero, List.set_cons_succ])
          refine wpAnyH_take (i := 4) (oi := ?o32) (v := ?v32) ?hi32 ?hs32 ?hf32 ?hr32 ?hQ32 ?hy32 ?hS32 ?rest32
          case hi32 => rfl
          case hs32 => kernel_rfl
          case hf32 => kernel_rfl
          case hr32 => kernel_rfl
          case hQ32 => exact fun _ _ _ h => h
          case hS32 => assumption
          case hy32 =>
            refine Or.inl ⟨by kernel_rfl, ?_⟩
            intro w' hSw
            (try dsimp only at hSw)
            go_simp
            (try rfl)
          (try simp only [List.getElem_toArray, List.getElem_cons_succ, List.getElem_cons_zero, Act.put, List.setIfInBounds_toArray, List.set_cons_zero, List.set_cons_succ])
          obtain ⟨hR, hS, hBB, _⟩ := box2 (cur_below hc)
          have HT := Lib.hid hBB
          clear hBB hc
          have cR0 : wd27.cell? ⟨w.heap.size, 0, none⟩ = some (.bool false) := cell_blk hR 0
          have cR1 : wd27.cell? ⟨w.heap.size, 1, none⟩ = some (.int .u64 0) := cell_blk hR 1
          have cR2 : wd27.cell? ⟨w.heap.size, 2, none⟩ = some (.int .u64 0) := cell_blk hR 2
          have cR3 : wd27.cell? ⟨w.heap.size, 3, none⟩ = some (.int .i64 0) := cell_blk hR 3
          have fR := free_blk hR
          have lR := blkF hR
          refine wpAnyH_ready (rs := [5]) (by kernel_rfl) (by simp) ?_
          refine AllReadyH.cons rfl (fun K hK => ?_) AllReadyH.nil
          go_simp
          replace hF := (st4_blk_farF (.bool n0) (.int .u64 h0) (.int .u64 l0) (.int .i64 d0) (show w.heap.size ≠ w2.heap.size by omega)).trans hF
          replace hX := (st4_blk_farF (.bool n0) (.int .u64 h0) (.int .u64 l0) (.int .i64 d0) (show w.heap.size ≠ X1 by omega)).trans hX
          replace hS := (st4_blk_farF (.bool n0) (.int .u64 h0) (.int .u64 l0) (.int .i64 d0) (show w.heap.size ≠ w.heap.size + 1 by omega)).trans hS
          have hR2 := st4_blkF (b0 := .bool n0) (b1 := .int .u64 h0) (b2 := .int .u64 l0) (b3 := .int .i64 d0) hR
          replace HT := Lib.hid (st4_belowF (X := w.heap.size) HT.out (by omega) (.bool n0) (.int .u64 h0) (.int .u64 l0) (.int .i64 d0))
          clear hR cR0 cR1 cR2 cR3 fR lR
          refine hK.out _ _ ?_ (fun hHeld => ?_)
          · exact ⟨cell_blk hF 0, cell_blk hF 1, cell_blk hF 2, cell_blk hF 3, cell_blk hX 0, cell_blk hX 1, cell_blk hX 2⟩
          clear hK K
          (try simp only [List.getElem_toArray, List.getElem_cons_succ, List.getElem_cons_zero, Act.put, List.setIfInBounds_toArray, List.set_cons_zero, List.set_cons_succ])
          generalize ((((wd27.setCell ⟨w.heap.size, 0, none⟩ (.bool n0)).setCell ⟨w.heap.size, 1, none⟩ (.int .u64 h0)).setCell ⟨w.heap.size, 2, none⟩ (.int .u64 l0)).setCell ⟨w.heap.size, 3, none⟩ (.int .i64 d0)) = ws28 at hF hX hS hR2 HT hHeld ⊢
          have cS0 : ws28.cell? ⟨w.heap.size + 1, 0, none⟩ = some (.bool false) := cell_blk hS 0
          have cS1 : ws28.cell? ⟨w.heap.size + 1, 1, none⟩ = some (.int .u64 0) := cell_blk hS 1
          have cS2 : ws28.cell? ⟨w.heap.size + 1, 2, none⟩ = some (.int .u64 0) := cell_blk hS 2
          have cS3 : ws28.cell? ⟨w.heap.size + 1, 3, none⟩ = some (.int .i64 0) := cell_blk hS 3
          have fS := free_blk hS
          have lS := blkF hS
          refine wpAnyH_ready (rs := [6]) (by kernel_rfl) (by simp) ?_
          refine AllReadyH.cons rfl (fun K hK => ?_) AllReadyH.nil
          go_simp
          replace hF := (st4_blk_farF (.bool m1) (.int .u64 x1) (.int .u64 y1) (.int .i64 d0) (show w.heap.size + 1 ≠ w2.heap.size by omega)).trans hF
          replace hX := (st4_blk_farF (.bool m1) (.int .u64 x1) (.int .u64 y1) (.int .i64 d0) (show w.heap.size + 1 ≠ X1 by omega)).trans hX
          replace hR2 := (st4_blk_farF (.bool m1) (.int .u64 x1) (.int .u64 y1) (.int .i64 d0) (show w.heap.size + 1 ≠ w.heap.size by omega)).trans hR2
          have hS2 := st4_blkF (b0 := .bool m1) (b1 := .int .u64 x1) (b2 := .int .u64 y1) (b3 := .int .i64 d0) hS
          replace HT := Lib.hid (st4_belowF (X := w.heap.size + 1) HT.out (by omega) (.bool m1) (.int .u64 x1) (.int .u64 y1) (.int .i64 d0))
          clear hS cS0 cS1 cS2 cS3 fS lS
          refine hK.out _ _ ?_ (fun hHeld => ?_)
          · exact ⟨cell_blk hF 0, cell_blk hF 1, cell_blk hF 2, cell_blk hF 3, cell_blk hX 0, cell_blk hX 1, cell_blk hX 2⟩
          clear hK K
          (try simp only [List.getElem_toArray, List.getElem_cons_succ, List.getElem_cons_zero, Act.put, List.setIfInBounds_toArray, List.set_cons_zero, List.set_cons_succ])
          generalize ((((ws28.setCell ⟨w.heap.size + 1, 0, none⟩ (.bool m1)).setCell ⟨w.heap.size + 1, 1, none⟩ (.int .u64 x1)).setCell ⟨w.heap.size + 1, 2, none⟩ (.int .u64 y1)).setCell ⟨w.heap.size + 1, 3, none⟩ (.int .i64 d0)) = wt29 at hF hX hS2 hR2 HT hHeld ⊢
          refine wpAnyH_done (by kernel_rfl) ?_ _
          refine NoPanic.normal ?_
          have e0 : wt29.cell? ⟨w.heap.size, 0, none⟩ = some (.bool n0) := cell_blk hR2 0
          have e1 : wt29.cell? ⟨w.heap.size, 1, none⟩ = some (.int .u64 h0) := cell_blk hR2 1
          have e2 : wt29.cell? ⟨w.heap.size, 2, none⟩ = some (.int .u64 l0) := cell_blk hR2 2
          have e3 : wt29.cell? ⟨w.heap.size, 3, none⟩ = some (.int .i64 d0) := cell_blk hR2 3
          have g0 : wt29.cell? ⟨w.heap.size + 1, 0, none⟩ = some (.bool m1) := cell_blk hS2 0
          have g1 : wt29.cell? ⟨w.heap.size + 1, 1, none⟩ = some (.int .u64 x1) := cell_blk hS2 1
          have g2 : wt29.cell? ⟨w.heap.size + 1, 2, none⟩ = some (.int .u64 y1) := cell_blk hS2 2
          have g3 : wt29.cell? ⟨w.heap.size + 1, 3, none⟩ = some (.int .i64 d0) := cell_blk hS2 3
          clear hR2 hS2 hHeld
          go_wp2_with fail
          (try simp only [Exit.inBlock, Exit.then])
          refine bodyPost_ret (v := .tuple #[.agg #[.bool n0, .int .u64 h0, .int .u64 l0, .int .i64 d0], .agg #[.bool m1, .int .u64 x1, .int .u64 y1, .int .i64 d0]]) ?_ rfl ⟨⟨_, _, _, _, _, _, _, _, ⟨hh, hl, hd⟩, ⟨hx, hy, hd⟩, rfl⟩, HT.out⟩
          rw [results_cells2 rfl]
          go_simp
        | false =>
          go_wp2_with fail
          have hDD : ws26.drew.cell? ⟨w2.heap.size, 0, none⟩ = some (.bool n0) ∧ ws26.drew.cell? ⟨w2.heap.size, 1, none⟩ = some (.int .u64 h0) ∧ ws26.drew.cell? ⟨w2.heap.size, 2, none⟩ = some (.int .u64 l0) ∧ ws26.drew.cell? ⟨w2.heap.size, 3, none⟩ = some (.int .i64 d0) := ⟨cell_blk (w := ws26) hF 0, cell_blk (w := ws26) hF 1, cell_blk (w := ws26) hF 2, cell_blk (w := ws26) hF 3⟩
          refine wp_region_noPanic ?_
          refine wp_region_held_drew (S := (fun w' => w'.cell? ⟨w2.heap.size, 0, none⟩ = some (.bool n0) ∧ w'.cell? ⟨w2.heap.size, 1, none⟩ = some (.int .u64 h0) ∧ w'.cell? ⟨w2.heap.size, 2, none⟩ = some (.int .u64 l0) ∧ w'.cell? ⟨w2.heap.size, 3, none⟩ = some (.int .i64 d0))) (by kernel_rfl) hDD (fun hHeld => ?_)
          clear hDD
          replace hF : ws26.drew.heap[w2.heap.size]? = _ := hF
          replace hc := Cur.drew hc
          generalize ws26.drew = wd30 at hF hc hHeld ⊢
          refine wpAnyH_take (i := 0) (oi := ?o33) (v := ?v33) ?hi33 ?hs33 ?hf33 ?hr33 ?hQ33 ?hy33 ?hS33 ?rest33
          case hi33 => rfl
          case hs33 => kernel_rfl
          case hf33 => kernel_rfl
          case hr33 => kernel_rfl
          case hQ33 => exact fun _ _ _ h => h
          case hS33 => assumption
          case hy33 =>
            refine Or.inl ⟨by kernel_rfl, ?_⟩
            intro w' hSw
            (try dsimp only at hSw)
            go_simp
            (try rfl)
          (try simp only [List.getElem_toArray, List.getElem_cons_zero, Act.put, List.setIfInBounds_toArray, List.set_cons_zero, List.set_cons_succ])
          refine wpAnyH_take (i := 1) (oi := ?o34) (v := ?v34) ?hi34 ?hs34 ?hf34 ?hr34 ?hQ34 ?hy34 ?hS34 ?rest34
          case hi34 => rfl
          case hs34 => kernel_rfl
          case hf34 => kernel_rfl
          case hr34 => kernel_rfl
          case hQ34 => exact fun _ _ _ h => h
          case hS34 => assumption
          case hy34 =>
            refine Or.inl ⟨by kernel_rfl, ?_⟩
            intro w' hSw
            (try dsimp only at hSw)
            go_simp
            (try rfl)
          (try simp only [List.getElem_toArray, List.getElem_cons_succ, List.getElem_cons_zero, Act.put, List.setIfInBounds_toArray, List.set_cons_zero, List.set_cons_succ])
          refine wpAnyH_ready (rs := [2]) (by kernel_rfl) (by simp) ?_
          refine AllReadyH.cons rfl (fun K hK => ?_) AllReadyH.nil
          go_simp
          refine (l5Frac ((w.alloc (.cells #[.bool false, .int .u64 0, .int .u64 0, .int .i64 0] 28)).alloc (.cells #[.bool false, .int .u64 0, .int .u64 0, .int .i64 0] 28)) _ _ hc).mono ?_
          rintro e wf31 ⟨⟨n1, h1, l1, d1, hh1, hl1, hd1, rfl⟩, hcf, hgf⟩
          replace hF := blk_grown hF hgf (by omega)
          clear hgf hc
          have hc := hcf
          clear hcf
          refine hK.out _ _ ?_ (fun hHeld => ?_)
          · exact ⟨cell_blk hF 0, cell_blk hF 1, cell_blk hF 2, cell_blk hF 3⟩
          clear hK K
          (try simp only [List.getElem_toArray, List.getElem_cons_succ, List.getElem_cons_zero, Act.put, List.setIfInBounds_toArray, List.set_cons_zero, List.set_cons_succ])
          obtain ⟨hR, hS, hBB, _⟩ := box2 (cur_below hc)
          have HT := Lib.hid hBB
          clear hBB hc
          have cR0 : wf31.cell? ⟨w.heap.size, 0, none⟩ = some (.bool false) := cell_blk hR 0
          have cR1 : wf31.cell? ⟨w.heap.size, 1, none⟩ = some (.int .u64 0) := cell_blk hR 1
          have cR2 : wf31.cell? ⟨w.heap.size, 2, none⟩ = some (.int .u64 0) := cell_blk hR 2
          have cR3 : wf31.cell? ⟨w.heap.size, 3, none⟩ = some (.int .i64 0) := cell_blk hR 3
          have fR := free_blk hR
          have lR := blkF hR
          refine wpAnyH_ready (rs := [3]) (by kernel_rfl) (by simp) ?_
          refine AllReadyH.cons rfl (fun K hK => ?_) AllReadyH.nil
          go_simp
          replace hF := (st4_blk_farF (.bool n0) (.int .u64 h0) (.int .u64 l0) (.int .i64 d0) (show w.heap.size ≠ w2.heap.size by omega)).trans hF
          replace hS := (st4_blk_farF (.bool n0) (.int .u64 h0) (.int .u64 l0) (.int .i64 d0) (show w.heap.size ≠ w.heap.size + 1 by omega)).trans hS
          have hR2 := st4_blkF (b0 := .bool n0) (b1 := .int .u64 h0) (b2 := .int .u64 l0) (b3 := .int .i64 d0) hR
          replace HT := Lib.hid (st4_belowF (X := w.heap.size) HT.out (by omega) (.bool n0) (.int .u64 h0) (.int .u64 l0) (.int .i64 d0))
          clear hR cR0 cR1 cR2 cR3 fR lR
          refine hK.out _ _ ?_ (fun hHeld => ?_)
          · exact ⟨cell_blk hF 0, cell_blk hF 1, cell_blk hF 2, cell_blk hF 3⟩
          clear hK K
          (try simp only [List.getElem_toArray, List.getElem_cons_succ, List.getElem_cons_zero, Act.put, List.setIfInBounds_toArray, List.set_cons_zero, List.set_cons_succ])
          generalize ((((wf31.setCell ⟨w.heap.size, 0, none⟩ (.bool n0)).setCell ⟨w.heap.size, 1, none⟩ (.int .u64 h0)).setCell ⟨w.heap.size, 2, none⟩ (.int .u64 l0)).setCell ⟨w.heap.size, 3, none⟩ (.int .i64 d0)) = ws32 at hF hS hR2 HT hHeld ⊢
          have cS0 : ws32.cell? ⟨w.heap.size + 1, 0, none⟩ = some (.bool false) := cell_blk hS 0
          have cS1 : ws32.cell? ⟨w.heap.size + 1, 1, none⟩ = some (.int .u64 0) := cell_blk hS 1
          have cS2 : ws32.cell? ⟨w.heap.size + 1, 2, none⟩ = some (.int .u64 0) := cell_blk hS 2
          have cS3 : ws32.cell? ⟨w.heap.size + 1, 3, none⟩ = some (.int .i64 0) := cell_blk hS 3
          have fS := free_blk hS
          have lS := blkF hS
          refine wpAnyH_ready (rs := [4]) (by kernel_rfl) (by simp) ?_
          refine AllReadyH.cons rfl (fun K hK => ?_) AllReadyH.nil
          go_simp
          replace hF := (st4_blk_farF (.bool n1) (.int .u64 h1) (.int .u64 l1) (.int .i64 d1) (show w.heap.size + 1 ≠ w2.heap.size by omega)).trans hF
          replace hR2 := (st4_blk_farF (.bool n1) (.int .u64 h1) (.int .u64 l1) (.int .i64 d1) (show w.heap.size + 1 ≠ w.heap.size by omega)).trans hR2
          have hS2 := st4_blkF (b0 := .bool n1) (b1 := .int .u64 h1) (b2 := .int .u64 l1) (b3 := .int .i64 d1) hS
          replace HT := Lib.hid (st4_belowF (X := w.heap.size + 1) HT.out (by omega) (.bool n1) (.int .u64 h1) (.int .u64 l1) (.int .i64 d1))
          clear hS cS0 cS1 cS2 cS3 fS lS
          refine hK.out _ _ ?_ (fun hHeld => ?_)
          · exact ⟨cell_blk hF 0, cell_blk hF 1, cell_blk hF 2, cell_blk hF 3⟩
          clear hK K
          (try simp only [List.getElem_toArray, List.getElem_cons_succ, List.getElem_cons_zero, Act.put, List.setIfInBounds_toArray, List.set_cons_zero, List.set_cons_succ])
          generalize ((((ws32.setCell ⟨w.heap.size + 1, 0, none⟩ (.bool n1)).setCell ⟨w.heap.size + 1, 1, none⟩ (.int .u64 h1)).setCell ⟨w.heap.size + 1, 2, none⟩ (.int .u64 l1)).setCell ⟨w.heap.size + 1, 3, none⟩ (.int .i64 d1)) = wt33 at hF hS2 hR2 HT hHeld ⊢
          refine wpAnyH_done (by kernel_rfl) ?_ _
          refine NoPanic.normal ?_
          have e0 : wt33.cell? ⟨w.heap.size, 0, none⟩ = some (.bool n0) := cell_blk hR2 0
          have e1 : wt33.cell? ⟨w.heap.size, 1, none⟩ = some (.int .u64 h0) := cell_blk hR2 1
          have e2 : wt33.cell? ⟨w.heap.size, 2, none⟩ = some (.int .u64 l0) := cell_blk hR2 2
          have e3 : wt33.cell? ⟨w.heap.size, 3, none⟩ = some (.int .i64 d0) := cell_blk hR2 3
          have g0 : wt33.cell? ⟨w.heap.size + 1, 0, none⟩ = some (.bool n1) := cell_blk hS2 0
          have g1 : wt33.cell? ⟨w.heap.size + 1, 1, none⟩ = some (.int .u64 h1) := cell_blk hS2 1
          have g2 : wt33.cell? ⟨w.heap.size + 1, 2, none⟩ = some (.int .u64 l1) := cell_blk hS2 2
          have g3 : wt33.cell? ⟨w.heap.size + 1, 3, none⟩ = some (.int .i64 d1) := cell_blk hS2 3
          clear hR2 hS2 hHeld
          go_wp2_with fail
          (try simp only [Exit.inBlock, Exit.then])
          refine bodyPost_ret (v := .tuple #[.agg #[.bool n0, .int .u64 h0, .int .u64 l0, .int .i64 d0], .agg #[.bool n1, .int .u64 h1, .int .u64 l1, .int .i64 d1]]) ?_ rfl ⟨⟨_, _, _, _, _, _, _, _, ⟨hh, hl, hd⟩, ⟨hh1, hl1, hd1⟩, rfl⟩, HT.out⟩
          rw [results_cells2 rfl]
          go_simp
    · skip
      go_simp
      have hX := box_new wd12 (.cells #[.bool false, .int .u64 0, .int .u64 0] 26)
      have hlx : w2.heap.size < wd12.heap.size := blkF hF
      replace hF := blkAl hF (.cells #[.bool false, .int .u64 0, .int .u64 0] 26)
      replace hc := hc.alloc (.cells #[.bool false, .int .u64 0, .int .u64 0] 26)
      refine hK.out _ _ ?_ (fun hHeld => ?_)
      · exact ⟨cell_blk hF 0, cell_blk hF 1, cell_blk hF 2, cell_blk hF 3⟩
      clear hK K
      (try simp only [List.getElem_toArray, List.getElem_cons_succ, List.getElem_cons_zero, Act.put, List.setIfInBounds_toArray, List.set_cons_zero, List.set_cons_succ])
      generalize (wd12.alloc (.cells #[.bool false, .int .u64 0, .int .u64 0] 26)) = wa34 at hX hF hc hHeld ⊢
      generalize wd12.heap.size = X1 at hX hlx ⊢
      refine wpAnyH_ready (rs := [2]) (by kernel_rfl) (by simp) ?_
      refine AllReadyH.cons rfl (fun K hK => ?_) AllReadyH.nil
      go_simp
      refine (specWideOfW 1 (by omega) (by omega) _).mono ?_
      rintro e wc35 ⟨rfl, hBc⟩
      rw [HW.out]
      replace hF := box_still hF hBc
      replace hc := hc.still hBc
      replace hX := box_still hX hBc
      clear hBc
      refine hK.out _ _ ?_ (fun hHeld => ?_)
      · exact ⟨cell_blk hF 0, cell_blk hF 1, cell_blk hF 2, cell_blk hF 3⟩
      clear hK K
      (try simp only [List.getElem_toArray, List.getElem_cons_succ, List.getElem_cons_zero, Act.put, List.setIfInBounds_toArray, List.set_cons_zero, List.set_cons_succ])
      refine wpAnyH_ready (rs := [3]) (by kernel_rfl) (by simp) ?_
      refine AllReadyH.cons rfl (fun K hK => ?_) AllReadyH.nil
      go_simp
      refine (specAddWide n0 h0 l0 false 0 1 hh.1 (by omega) hl.1 hl.2 (by omega) (by omega) _).mono ?_
      rintro e wc36 ⟨rfl, hBc⟩
      rw [HE.out]
      replace hF := box_still hF hBc
      replace hc := hc.still hBc
      replace hX := box_still hX hBc
      clear hBc
      refine hK.out _ _ ?_ (fun hHeld => ?_)
      · exact ⟨cell_blk hF 0, cell_blk hF 1, cell_blk hF 2, cell_blk hF 3⟩
      clear hK K
      (try simp only [List.getElem_toArray, List.getElem_cons_succ, List.getElem_cons_zero, Act.put, List.setIfInBounds_toArray, List.set_cons_zero, List.set_cons_succ])
      refine wpAnyH_take (i := 4) (oi := ?o35) (v := ?v35) ?hi35 ?hs35 ?hf35 ?hr35 ?hQ35 ?hy35 ?hS35 ?rest35
      case hi35 => rfl
      case hs35 => kernel_rfl
      case hf35 => kernel_rfl
      case hr35 => kernel_rfl
      case hQ35 => exact fun _ _ _ h => h
      case hS35 => assumption
      case hy35 =>
        refine Or.inl ⟨by kernel_rfl, ?_⟩
        intro w' hSw
        (try dsimp only at hSw)
        go_simp
        (try rfl)
      (try simp only [List.getElem_toArray, List.getElem_cons_succ, List.getElem_cons_zero, Act.put, List.setIfInBounds_toArray, List.set_cons_zero, List.set_cons_succ])
      refine wpAnyH_take (i := 5) (oi := ?o36) (v := ?v36) ?hi36 ?hs36 ?hf36 ?hr36 ?hQ36 ?hy36 ?hS36 ?rest36
      case hi36 => rfl
      case hs36 => kernel_rfl
      case hf36 => kernel_rfl
      case hr36 => kernel_rfl
      case hQ36 => exact fun _ _ _ h => h
      case hS36 => assumption
      case hy36 =>
        refine Or.inl ⟨by kernel_rfl, ?_⟩
        intro w' hSw
        (try dsimp only at hSw)
        go_simp
        (try rfl)
      (try simp only [List.getElem_toArray, List.getElem_cons_succ, List.getElem_cons_zero, Act.put, List.setIfInBounds_toArray, List.set_cons_zero, List.set_cons_succ])
      refine wpAnyH_take (i := 6) (oi := ?o37) (v := ?v37) ?hi37 ?hs37 ?hf37 ?hr37 ?hQ37 ?hy37 ?hS37 ?rest37
      case hi37 => rfl
      case hs37 => kernel_rfl
      case hf37 => kernel_rfl
      case hr37 => kernel_rfl
      case hQ37 => exact fun _ _ _ h => h
      case hS37 => assumption
      case hy37 =>
        refine Or.inl ⟨by kernel_rfl, ?_⟩
        intro w' hSw
        (try dsimp only at hSw)
        go_simp
        (try rfl)
      (try simp only [List.getElem_toArray, List.getElem_cons_succ, List.getElem_cons_zero, Act.put, List.setIfInBounds_toArray, List.set_cons_zero, List.set_cons_succ])
      have cN0 : wc36.cell? ⟨X1, 0, none⟩ = some (.bool false) := cell_blk hX 0
      have cN1 : wc36.cell? ⟨X1, 1, none⟩ = some (.int .u64 0) := cell_blk hX 1
      have cN2 : wc36.cell? ⟨X1, 2, none⟩ = some (.int .u64 0) := cell_blk hX 2
      have fN := free_blk hX
      have lN := blkF hX
      refine wpAnyH_ready (rs := [8]) (by kernel_rfl) (by simp) ?_
      refine AllReadyH.cons rfl (fun K hK => ?_) AllReadyH.nil
      go_simp
      replace hF := (st3_blk_farT (.bool m1) (.int .u64 x1) (.int .u64 y1) (show X1 ≠ w2.heap.size by omega)).trans hF
      replace hc := ((hc.set (b := X1) (k := 0) (x := .bool m1) (by omega) (by rw [hsz]; omega)).set (b := X1) (k := 1) (x := .int .u64 x1) (by omega) (by rw [hsz]; omega)).set (b := X1) (k := 2) (x := .int .u64 y1) (by omega) (by rw [hsz]; omega)
      have hX2 := st3_blkT (b0 := .bool m1) (b1 := .int .u64 x1) (b2 := .int .u64 y1) hX
      clear hX cN0 cN1 cN2 fN lN
      refine hK.out _ _ ?_ (fun hHeld => ?_)
      · exact ⟨cell_blk hF 0, cell_blk hF 1, cell_blk hF 2, cell_blk hF 3⟩
      clear hK K
      (try simp only [List.getElem_toArray, List.getElem_cons_succ, List.getElem_cons_zero, Act.put, List.setIfInBounds_toArray, List.set_cons_zero, List.set_cons_succ])
      generalize (((wc36.setCell ⟨X1, 0, none⟩ (.bool m1)).setCell ⟨X1, 1, none⟩ (.int .u64 x1)).setCell ⟨X1, 2, none⟩ (.int .u64 y1)) = ws37 at hF hc hX2 hHeld ⊢
      have hX := hX2
      clear hX2
      refine wpAnyH_take (i := 9) (oi := ?o38) (v := ?v38) ?hi38 ?hs38 ?hf38 ?hr38 ?hQ38 ?hy38 ?hS38 ?rest38
      case hi38 => rfl
      case hs38 => kernel_rfl
      case hf38 => kernel_rfl
      case hr38 => kernel_rfl
      case hQ38 => exact fun _ _ _ h => h
      case hS38 => assumption
      case hy38 =>
        refine Or.inl ⟨by kernel_rfl, ?_⟩
        intro w' hSw
        (try dsimp only at hSw)
        go_simp
        (try rfl)
      (try simp only [List.getElem_toArray, List.getElem_cons_succ, List.getElem_cons_zero, Act.put, List.setIfInBounds_toArray, List.set_cons_zero, List.set_cons_succ])
      refine wpAnyH_done (by kernel_rfl) ?_ _
      refine NoPanic.normal ?_
      cases b with
      | true =>
        go_wp2_with fail
        have hDD : ws37.drew.cell? ⟨w2.heap.size, 0, none⟩ = some (.bool n0) ∧ ws37.drew.cell? ⟨w2.heap.size, 1, none⟩ = some (.int .u64 h0) ∧ ws37.drew.cell? ⟨w2.heap.size, 2, none⟩ = some (.int .u64 l0) ∧ ws37.drew.cell? ⟨w2.heap.size, 3, none⟩ = some (.int .i64 d0) ∧ ws37.drew.cell? ⟨X1, 0, none⟩ = some (.bool m1) ∧ ws37.drew.cell? ⟨X1, 1, none⟩ = some (.int .u64 x1) ∧ ws37.drew.cell? ⟨X1, 2, none⟩ = some (.int .u64 y1) := ⟨cell_blk (w := ws37) hF 0, cell_blk (w := ws37) hF 1, cell_blk (w := ws37) hF 2, cell_blk (w := ws37) hF 3, cell_blk (w := ws37) hX 0, cell_blk (w := ws37) hX 1, cell_blk (w := ws37) hX 2⟩
        refine wp_region_noPanic ?_
        refine wp_region_held_drew (S := (fun w' => w'.cell? ⟨w2.heap.size, 0, none⟩ = some (.bool n0) ∧ w'.cell? ⟨w2.heap.size, 1, none⟩ = some (.int .u64 h0) ∧ w'.cell? ⟨w2.heap.size, 2, none⟩ = some (.int .u64 l0) ∧ w'.cell? ⟨w2.heap.size, 3, none⟩ = some (.int .i64 d0) ∧ w'.cell? ⟨X1, 0, none⟩ = some (.bool m1) ∧ w'.cell? ⟨X1, 1, none⟩ = some (.int .u64 x1) ∧ w'.cell? ⟨X1, 2, none⟩ = some (.int .u64 y1))) (by kernel_rfl) hDD (fun hHeld => ?_)
        clear hDD
        replace hF : ws37.drew.heap[w2.heap.size]? = _ := hF
        replace hX : ws37.drew.heap[X1]? = _ := hX
        replace hc := Cur.drew hc
        generalize ws37.drew = wd38 at hF hX hc hHeld ⊢
        refine wpAnyH_take (i := 0) (oi := ?o39) (v := ?v39) ?hi39 ?hs39 ?hf39 ?hr39 ?hQ39 ?hy39 ?hS39 ?rest39
        case hi39 => rfl
        case hs39 => kernel_rfl
        case hf39 => kernel_rfl
        case hr39 => kernel_rfl
        case hQ39 => exact fun _ _ _ h => h
        case hS39 => assumption
        case hy39 =>
          refine Or.inl ⟨by kernel_rfl, ?_⟩
          intro w' hSw
          (try dsimp only at hSw)
          go_simp
          (try rfl)
        (try simp only [List.getElem_toArray, List.getElem_cons_zero, Act.put, List.setIfInBounds_toArray, List.set_cons_zero, List.set_cons_succ])
        refine wpAnyH_take (i := 1) (oi := ?o40) (v := ?v40) ?hi40 ?hs40 ?hf40 ?hr40 ?hQ40 ?hy40 ?hS40 ?rest40
        case hi40 => rfl
        case hs40 => kernel_rfl
        case hf40 => kernel_rfl
        case hr40 => kernel_rfl
        case hQ40 => exact fun _ _ _ h => h
        case hS40 => assumption
        case hy40 =>
          refine Or.inl ⟨by kernel_rfl, ?_⟩
          intro w' hSw
          (try dsimp only at hSw)
          go_simp
          (try rfl)
        (try simp only [List.getElem_toArray, List.getElem_cons_succ, List.getElem_cons_zero, Act.put, List.setIfInBounds_toArray, List.set_cons_zero, List.set_cons_succ])
        refine wpAnyH_take (i := 2) (oi := ?o41) (v := ?v41) ?hi41 ?hs41 ?hf41 ?hr41 ?hQ41 ?hy41 ?hS41 ?rest41
        case hi41 => rfl
        case hs41 => kernel_rfl
        case hf41 => kernel_rfl
        case hr41 => kernel_rfl
        case hQ41 => exact fun _ _ _ h => h
        case hS41 => assumption
        case hy41 =>
          refine Or.inl ⟨by kernel_rfl, ?_⟩
          intro w' hSw
          (try dsimp only at hSw)
          go_simp
          (try rfl)
        (try simp only [List.getElem_toArray, List.getElem_cons_succ, List.getElem_cons_zero, Act.put, List.setIfInBounds_toArray, List.set_cons_zero, List.set_cons_succ])
        refine wpAnyH_take (i := 3) (oi := ?o42) (v := ?v42) ?hi42 ?hs42 ?hf42 ?hr42 ?hQ42 ?hy42 ?hS42 ?rest42
        case hi42 => rfl
        case hs42 => kernel_rfl
        case hf42 => kernel_rfl
        case hr42 => kernel_rfl
        case hQ42 => exact fun _ _ _ h => h
        case hS42 => assumption
        case hy42 =>
          refine Or.inl ⟨by kernel_rfl, ?_⟩
          intro w' hSw
          (try dsimp only at hSw)
          go_simp
          (try rfl)
        (try simp only [List.getElem_toArray, List.getElem_cons_succ, List.getElem_cons_zero, Act.put, List.setIfInBounds_toArray, List.set_cons_zero, List.set_cons_succ])
        refine wpAnyH_take (i := 4) (oi := ?o43) (v := ?v43) ?hi43 ?hs43 ?hf43 ?hr43 ?hQ43 ?hy43 ?hS43 ?rest43
        case hi43 => rfl
        case hs43 => kernel_rfl
        case hf43 => kernel_rfl
        case hr43 => kernel_rfl
        case hQ43 => exact fun _ _ _ h => h
        case hS43 => assumption
        case hy43 =>
          refine Or.inl ⟨by kernel_rfl, ?_⟩
          intro w' hSw
          (try dsimp only at hSw)
          go_simp
          (try rfl)
        (try simp only [List.getElem_toArray, List.getElem_cons_succ, List.getElem_cons_zero, Act.put, List.setIfInBounds_toArray, List.set_cons_zero, List.set_cons_succ])
        obtain ⟨hR, hS, hBB, _⟩ := box2 (cur_below hc)
        have HT := Lib.hid hBB
        clear hBB hc
        have cR0 : wd38.cell? ⟨w.heap.size, 0, none⟩ = some (.bool false) := cell_blk hR 0
        have cR1 : wd38.cell? ⟨w.heap.size, 1, none⟩ = some (.int .u64 0) := cell_blk hR 1
        have cR2 : wd38.cell? ⟨w.heap.size, 2, none⟩ = some (.int .u64 0) := cell_blk hR 2
        have cR3 : wd38.cell? ⟨w.heap.size, 3, none⟩ = some (.int .i64 0) := cell_blk hR 3
        have fR := free_blk hR
        have lR := blkF hR
        refine wpAnyH_ready (rs := [5]) (by kernel_rfl) (by simp) ?_
        refine AllReadyH.cons rfl (fun K hK => ?_) AllReadyH.nil
        go_simp
        replace hF := (st4_blk_farF (.bool n0) (.int .u64 h0) (.int .u64 l0) (.int .i64 d0) (show w.heap.size ≠ w2.heap.size by omega)).trans hF
        replace hX := (st4_blk_farF (.bool n0) (.int .u64 h0) (.int .u64 l0) (.int .i64 d0) (show w.heap.size ≠ X1 by omega)).trans hX
        replace hS := (st4_blk_farF (.bool n0) (.int .u64 h0) (.int .u64 l0) (.int .i64 d0) (show w.heap.size ≠ w.heap.size + 1 by omega)).trans hS
        have hR2 := st4_blkF (b0 := .bool n0) (b1 := .int .u64 h0) (b2 := .int .u64 l0) (b3 := .int .i64 d0) hR
        replace HT := Lib.hid (st4_belowF (X := w.heap.size) HT.out (by omega) (.bool n0) (.int .u64 h0) (.int .u64 l0) (.int .i64 d0))
        clear hR cR0 cR1 cR2 cR3 fR lR
        refine hK.out _ _ ?_ (fun hHeld => ?_)
        · exact ⟨cell_blk hF 0, cell_blk hF 1, cell_blk hF 2, cell_blk hF 3, cell_blk hX 0, cell_blk hX 1, cell_blk hX 2⟩
        clear hK K
        (try simp only [List.getElem_toArray, List.getElem_cons_succ, List.getElem_cons_zero, Act.put, List.setIfInBounds_toArray, List.set_cons_zero, List.set_cons_succ])
        generalize ((((wd38.setCell ⟨w.heap.size, 0, none⟩ (.bool n0)).setCell ⟨w.heap.size, 1, none⟩ (.int .u64 h0)).setCell ⟨w.heap.size, 2, none⟩ (.int .u64 l0)).setCell ⟨w.heap.size, 3, none⟩ (.int .i64 d0)) = ws39 at hF hX hS hR2 HT hHeld ⊢
        have cS0 : ws39.cell? ⟨w.heap.size + 1, 0, none⟩ = some (.bool false) := cell_blk hS 0
        have cS1 : ws39.cell? ⟨w.heap.size + 1, 1, none⟩ = some (.int .u64 0) := cell_blk hS 1
        have cS2 : ws39.cell? ⟨w.heap.size + 1, 2, none⟩ = some (.int .u64 0) := cell_blk hS 2
        have cS3 : ws39.cell? ⟨w.heap.size + 1, 3, none⟩ = some (.int .i64 0) := cell_blk hS 3
        have fS := free_blk hS
        have lS := blkF hS
        refine wpAnyH_ready (rs := [6]) (by kernel_rfl) (by simp) ?_
        refine AllReadyH.cons rfl (fun K hK => ?_) AllReadyH.nil
        go_simp
        replace hF := (st4_blk_farF (.bool m1) (.int .u64 x1) (.int .u64 y1) (.int .i64 d0) (show w.heap.size + 1 ≠ w2.heap.size by omega)).trans hF
        replace hX := (st4_blk_farF (.bool m1) (.int .u64 x1) (.int .u64 y1) (.int .i64 d0) (show w.heap.size + 1 ≠ X1 by omega)).trans hX
        replace hR2 := (st4_blk_farF (.bool m1) (.int .u64 x1) (.int .u64 y1) (.int .i64 d0) (show w.heap.size + 1 ≠ w.heap.size by omega)).trans hR2
        have hS2 := st4_blkF (b0 := .bool m1) (b1 := .int .u64 x1) (b2 := .int .u64 y1) (b3 := .int .i64 d0) hS
        replace HT := Lib.hid (st4_belowF (X := w.heap.size + 1) HT.out (by omega) (.bool m1) (.int .u64 x1) (.int .u64 y1) (.int .i64 d0))
        clear hS cS0 cS1 cS2 cS3 fS lS
        refine hK.out _ _ ?_ (fun hHeld => ?_)
        · exact ⟨cell_blk hF 0, cell_blk hF 1, cell_blk hF 2, cell_blk hF 3, cell_blk hX 0, cell_blk hX 1, cell_blk hX 2⟩
        clear hK K
        (try simp only [List.getElem_toArray, List.getElem_cons_succ, List.getElem_cons_zero, Act.put, List.setIfInBounds_toArray, List.set_cons_zero, List.set_cons_succ])
        generalize ((((ws39.setCell ⟨w.heap.size + 1, 0, none⟩ (.bool m1)).setCell ⟨w.heap.size + 1, 1, none⟩ (.int .u64 x1)).setCell ⟨w.heap.size + 1, 2, none⟩ (.int .u64 y1)).setCell ⟨w.heap.size + 1, 3, none⟩ (.int .i64 d0)) = wt40 at hF hX hS2 hR2 HT hHeld ⊢
        refine wpAnyH_done (by kernel_rfl) ?_ _
        refine NoPanic.normal ?_
        have e0 : wt40.cell? ⟨w.heap.size, 0, none⟩ = some (.bool n0) := cell_blk hR2 0
        have e1 : wt40.cell? ⟨w.heap.size, 1, none⟩ = some (.int .u64 h0) := cell_blk hR2 1
        have e2 : wt40.cell? ⟨w.heap.size, 2, none⟩ = some (.int .u64 l0) := cell_blk hR2 2
        have e3 : wt40.cell? ⟨w.heap.size, 3, none⟩ = some (.int .i64 d0) := cell_blk hR2 3
        have g0 : wt40.cell? ⟨w.heap.size + 1, 0, none⟩ = some (.bool m1) := cell_blk hS2 0
        have g1 : wt40.cell? ⟨w.heap.size + 1, 1, none⟩ = some (.int .u64 x1) := cell_blk hS2 1
        have g2 : wt40.cell? ⟨w.heap.size + 1, 2, none⟩ = some (.int .u64 y1) := cell_blk hS2 2
        have g3 : wt40.cell? ⟨w.heap.size + 1, 3, none⟩ = some (.int .i64 d0) := cell_blk hS2 3
        clear hR2 hS2 hHeld
        go_wp2_with fail
        (try simp only [Exit.inBlock, Exit.then])
        refine bodyPost_ret (v := .tuple #[.agg #[.bool n0, .int .u64 h0, .int .u64 l0, .int .i64 d0], .agg #[.bool m1, .int .u64 x1, .int .u64 y1, .int .i64 d0]]) ?_ rfl ⟨⟨_, _, _, _, _, _, _, _, ⟨hh, hl, hd⟩, ⟨hx, hy, hd⟩, rfl⟩, HT.out⟩
        rw [results_cells2 rfl]
        go_simp
      | false =>
        go_wp2_with fail
        have hDD : ws37.drew.cell? ⟨w2.heap.size, 0, none⟩ = some (.bool n0) ∧ ws37.drew.cell? ⟨w2.heap.size, 1, none⟩ = some (.int .u64 h0) ∧ ws37.drew.cell? ⟨w2.heap.size, 2, none⟩ = some (.int .u64 l0) ∧ ws37.drew.cell? ⟨w2.heap.size, 3, none⟩ = some (.int .i64 d0) := ⟨cell_blk (w := ws37) hF 0, cell_blk (w := ws37) hF 1, cell_blk (w := ws37) hF 2, cell_blk (w := ws37) hF 3⟩
        refine wp_region_noPanic ?_
        refine wp_region_held_drew (S := (fun w' => w'.cell? ⟨w2.heap.size, 0, none⟩ = some (.bool n0) ∧ w'.cell? ⟨w2.heap.size, 1, none⟩ = some (.int .u64 h0) ∧ w'.cell? ⟨w2.heap.size, 2, none⟩ = some (.int .u64 l0) ∧ w'.cell? ⟨w2.heap.size, 3, none⟩ = some (.int .i64 d0))) (by kernel_rfl) hDD (fun hHeld => ?_)
        clear hDD
        replace hF : ws37.drew.heap[w2.heap.size]? = _ := hF
        replace hc := Cur.drew hc
        generalize ws37.drew = wd41 at hF hc hHeld ⊢
        refine wpAnyH_take (i := 0) (oi := ?o44) (v := ?v44) ?hi44 ?hs44 ?hf44 ?hr44 ?hQ44 ?hy44 ?hS44 ?rest44
        case hi44 => rfl
        case hs44 => kernel_rfl
        case hf44 => kernel_rfl
        case hr44 => kernel_rfl
        case hQ44 => exact fun _ _ _ h => h
        case hS44 => assumption
        case hy44 =>
          refine Or.inl ⟨by kernel_rfl, ?_⟩
          intro w' hSw
          (try dsimp only at hSw)
          go_simp
          (try rfl)
        (try simp only [List.getElem_toArray, List.getElem_cons_zero, Act.put, List.setIfInBounds_toArray, List.set_cons_zero, List.set_cons_succ])
        refine wpAnyH_take (i := 1) (oi := ?o45) (v := ?v45) ?hi45 ?hs45 ?hf45 ?hr45 ?hQ45 ?hy45 ?hS45 ?rest45
        case hi45 => rfl
        case hs45 => kernel_rfl
        case hf45 => kernel_rfl
        case hr45 => kernel_rfl
        case hQ45 => exact fun _ _ _ h => h
        case hS45 => assumption
        case hy45 =>
          refine Or.inl ⟨by kernel_rfl, ?_⟩
          intro w' hSw
          (try dsimp only at hSw)
          go_simp
          (try rfl)
        (try simp only [List.getElem_toArray, List.getElem_cons_succ, List.getElem_cons_zero, Act.put, List.setIfInBounds_toArray, List.set_cons_zero, List.set_cons_succ])
        refine wpAnyH_ready (rs := [2]) (by kernel_rfl) (by simp) ?_
        refine AllReadyH.cons rfl (fun K hK => ?_) AllReadyH.nil
        go_simp
        refine (l5Frac ((w.alloc (.cells #[.bool false, .int .u64 0, .int .u64 0, .int .i64 0] 28)).alloc (.cells #[.bool false, .int .u64 0, .int .u64 0, .int .i64 0] 28)) _ _ hc).mono ?_
        rintro e wf42 ⟨⟨n1, h1, l1, d1, hh1, hl1, hd1, rfl⟩, hcf, hgf⟩
        replace hF := blk_grown hF hgf (by omega)
        clear hgf hc
        have hc := hcf
        clear hcf
        refine hK.out _ _ ?_ (fun hHeld => ?_)
        · exact ⟨cell_blk hF 0, cell_blk hF 1, cell_blk hF 2, cell_blk hF 3⟩
        clear hK K
        (try simp only [List.getElem_toArray, List.getElem_cons_succ, List.getElem_cons_zero, Act.put, List.setIfInBounds_toArray, List.set_cons_zero, List.set_cons_succ])
        obtain ⟨hR, hS, hBB, _⟩ := box2 (cur_below hc)
        have HT := Lib.hid hBB
        clear hBB hc
        have cR0 : wf42.cell? ⟨w.heap.size, 0, none⟩ = some (.bool false) := cell_blk hR 0
        have cR1 : wf42.cell? ⟨w.heap.size, 1, none⟩ = some (.int .u64 0) := cell_blk hR 1
        have cR2 : wf42.cell? ⟨w.heap.size, 2, none⟩ = some (.int .u64 0) := cell_blk hR 2
        have cR3 : wf42.cell? ⟨w.heap.size, 3, none⟩ = some (.int .i64 0) := cell_blk hR 3
        have fR := free_blk hR
        have lR := blkF hR
        refine wpAnyH_ready (rs := [3]) (by kernel_rfl) (by simp) ?_
        refine AllReadyH.cons rfl (fun K hK => ?_) AllReadyH.nil
        go_simp
        replace hF := (st4_blk_farF (.bool n0) (.int .u64 h0) (.int .u64 l0) (.int .i64 d0) (show w.heap.size ≠ w2.heap.size by omega)).trans hF
        replace hS := (st4_blk_farF (.bool n0) (.int .u64 h0) (.int .u64 l0) (.int .i64 d0) (show w.heap.size ≠ w.heap.size + 1 by omega)).trans hS
        have hR2 := st4_blkF (b0 := .bool n0) (b1 := .int .u64 h0) (b2 := .int .u64 l0) (b3 := .int .i64 d0) hR
        replace HT := Lib.hid (st4_belowF (X := w.heap.size) HT.out (by omega) (.bool n0) (.int .u64 h0) (.int .u64 l0) (.int .i64 d0))
        clear hR cR0 cR1 cR2 cR3 fR lR
        refine hK.out _ _ ?_ (fun hHeld => ?_)
        · exact ⟨cell_blk hF 0, cell_blk hF 1, cell_blk hF 2, cell_blk hF 3⟩
        clear hK K
        (try simp only [List.getElem_toArray, List.getElem_cons_succ, List.getElem_cons_zero, Act.put, List.setIfInBounds_toArray, List.set_cons_zero, List.set_cons_succ])
        generalize ((((wf42.setCell ⟨w.heap.size, 0, none⟩ (.bool n0)).setCell ⟨w.heap.size, 1, none⟩ (.int .u64 h0)).setCell ⟨w.heap.size, 2, none⟩ (.int .u64 l0)).setCell ⟨w.heap.size, 3, none⟩ (.int .i64 d0)) = ws43 at hF hS hR2 HT hHeld ⊢
        have cS0 : ws43.cell? ⟨w.heap.size + 1, 0, none⟩ = some (.bool false) := cell_blk hS 0
        have cS1 : ws43.cell? ⟨w.heap.size + 1, 1, none⟩ = some (.int .u64 0) := cell_blk hS 1
        have cS2 : ws43.cell? ⟨w.heap.size + 1, 2, none⟩ = some (.int .u64 0) := cell_blk hS 2
        have cS3 : ws43.cell? ⟨w.heap.size + 1, 3, none⟩ = some (.int .i64 0) := cell_blk hS 3
        have fS := free_blk hS
        have lS := blkF hS
        refine wpAnyH_ready (rs := [4]) (by kernel_rfl) (by simp) ?_
        refine AllReadyH.cons rfl (fun K hK => ?_) AllReadyH.nil
        go_simp
        replace hF := (st4_blk_farF (.bool n1) (.int .u64 h1) (.int .u64 l1) (.int .i64 d1) (show w.heap.size + 1 ≠ w2.heap.size by omega)).trans hF
        replace hR2 := (st4_blk_farF (.bool n1) (.int .u64 h1) (.int .u64 l1) (.int .i64 d1) (show w.heap.size + 1 ≠ w.heap.size by omega)).trans hR2
        have hS2 := st4_blkF (b0 := .bool n1) (b1 := .int .u64 h1) (b2 := .int .u64 l1) (b3 := .int .i64 d1) hS
        replace HT := Lib.hid (st4_belowF (X := w.heap.size + 1) HT.out (by omega) (.bool n1) (.int .u64 h1) (.int .u64 l1) (.int .i64 d1))
        clear hS cS0 cS1 cS2 cS3 fS lS
        refine hK.out _ _ ?_ (fun hHeld => ?_)
        · exact ⟨cell_blk hF 0, cell_blk hF 1, cell_blk hF 2, cell_blk hF 3⟩
        clear hK K
        (try simp only [List.getElem_toArray, List.getElem_cons_succ, List.getElem_cons_zero, Act.put, List.setIfInBounds_toArray, List.set_cons_zero, List.set_cons_succ])
        generalize ((((ws43.setCell ⟨w.heap.size + 1, 0, none⟩ (.bool n1)).setCell ⟨w.heap.size + 1, 1, none⟩ (.int .u64 h1)).setCell ⟨w.heap.size + 1, 2, none⟩ (.int .u64 l1)).setCell ⟨w.heap.size + 1, 3, none⟩ (.int .i64 d1)) = wt44 at hF hS2 hR2 HT hHeld ⊢
        refine wpAnyH_done (by kernel_rfl) ?_ _
        refine NoPanic.normal ?_
        have e0 : wt44.cell? ⟨w.heap.size, 0, none⟩ = some (.bool n0) := cell_blk hR2 0
        have e1 : wt44.cell? ⟨w.heap.size, 1, none⟩ = some (.int .u64 h0) := cell_blk hR2 1
        have e2 : wt44.cell? ⟨w.heap.size, 2, none⟩ = some (.int .u64 l0) := cell_blk hR2 2
        have e3 : wt44.cell? ⟨w.heap.size, 3, none⟩ = some (.int .i64 d0) := cell_blk hR2 3
        have g0 : wt44.cell? ⟨w.heap.size + 1, 0, none⟩ = some (.bool n1) := cell_blk hS2 0
        have g1 : wt44.cell? ⟨w.heap.size + 1, 1, none⟩ = some (.int .u64 h1) := cell_blk hS2 1
        have g2 : wt44.cell? ⟨w.heap.size + 1, 2, none⟩ = some (.int .u64 l1) := cell_blk hS2 2
        have g3 : wt44.cell? ⟨w.heap.size + 1, 3, none⟩ = some (.int .i64 d1) := cell_blk hS2 3
        clear hR2 hS2 hHeld
        go_wp2_with fail
        (try simp only [Exit.inBlock, Exit.then])
        refine bodyPost_ret (v := .tuple #[.agg #[.bool n0, .int .u64 h0, .int .u64 l0, .int .i64 d0], .agg #[.bool n1, .int .u64 h1, .int .u64 l1, .int .i64 d1]]) ?_ rfl ⟨⟨_, _, _, _, _, _, _, _, ⟨hh, hl, hd⟩, ⟨hh1, hl1, hd1⟩, rfl⟩, HT.out⟩
        rw [results_cells2 rfl]
        go_simp
  · skip
    have hc := hc3
    clear hc3
    go_wp2_with fail
    have hDD : w3.drew.cell? ⟨w2.heap.size, 0, none⟩ = some (.bool n0) ∧ w3.drew.cell? ⟨w2.heap.size, 1, none⟩ = some (.int .u64 h0) ∧ w3.drew.cell? ⟨w2.heap.size, 2, none⟩ = some (.int .u64 l0) ∧ w3.drew.cell? ⟨w2.heap.size, 3, none⟩ = some (.int .i64 d0) := ⟨cell_blk (w := w3) hF 0, cell_blk (w := w3) hF 1, cell_blk (w := w3) hF 2, cell_blk (w := w3) hF 3⟩
    refine wp_region_noPanic ?_
    refine wp_region_held_drew (S := (fun w' => w'.cell? ⟨w2.heap.size, 0, none⟩ = some (.bool n0) ∧ w'.cell? ⟨w2.heap.size, 1, none⟩ = some (.int .u64 h0) ∧ w'.cell? ⟨w2.heap.size, 2, none⟩ = some (.int .u64 l0) ∧ w'.cell? ⟨w2.heap.size, 3, none⟩ = some (.int .i64 d0))) (by kernel_rfl) hDD (fun hHeld => ?_)
    clear hDD
    replace hF : w3.drew.heap[w2.heap.size]? = _ := hF
    replace hc := Cur.drew hc
    generalize w3.drew = wd45 at hF hc hHeld ⊢
    refine wpAnyH_take (i := 0) (oi := ?o46) (v := ?v46) ?hi46 ?hs46 ?hf46 ?hr46 ?hQ46 ?hy46 ?hS46 ?rest46
    case hi46 => rfl
    case hs46 => kernel_rfl
    case hf46 => kernel_rfl
    case hr46 => kernel_rfl
    case hQ46 => exact fun _ _ _ h => h
    case hS46 => assumption
    case hy46 =>
      refine Or.inl ⟨by kernel_rfl, ?_⟩
      intro w' hSw
      (try dsimp only at hSw)
      go_simp
      (try rfl)
    (try simp only [List.getElem_toArray, List.getElem_cons_zero, Act.put, List.setIfInBounds_toArray, List.set_cons_zero, List.set_cons_succ])
    refine wpAnyH_take (i := 1) (oi := ?o47) (v := ?v47) ?hi47 ?hs47 ?hf47 ?hr47 ?hQ47 ?hy47 ?hS47 ?rest47
    case hi47 => rfl
    case hs47 => kernel_rfl
    case hf47 => kernel_rfl
    case hr47 => kernel_rfl
    case hQ47 => exact fun _ _ _ h => h
    case hS47 => assumption
    case hy47 =>
      refine Or.inl ⟨by kernel_rfl, ?_⟩
      intro w' hSw
      (try dsimp only at hSw)
      go_simp
      (try rfl)
    (try simp only [List.getElem_toArray, List.getElem_cons_succ, List.getElem_cons_zero, Act.put, List.setIfInBounds_toArray, List.set_cons_zero, List.set_cons_succ])
    refine wpAnyH_ready (rs := [2]) (by kernel_rfl) (by simp) ?_
    refine AllReadyH.cons rfl (fun K hK => ?_) AllReadyH.nil
    go_simp
    refine (l5Frac ((w.alloc (.cells #[.bool false, .int .u64 0, .int .u64 0, .int .i64 0] 28)).alloc (.cells #[.bool false, .int .u64 0, .int .u64 0, .int .i64 0] 28)) _ _ hc).mono ?_
    rintro e wf46 ⟨⟨n1, h1, l1, d1, hh1, hl1, hd1, rfl⟩, hcf, hgf⟩
    replace hF := blk_grown hF hgf (by omega)
    clear hgf hc
    have hc := hcf
    clear hcf
    refine hK.out _ _ ?_ (fun hHeld => ?_)
    · exact ⟨cell_blk hF 0, cell_blk hF 1, cell_blk hF 2, cell_blk hF 3⟩
    clear hK K
    (try simp only [List.getElem_toArray, List.getElem_cons_succ, List.getElem_cons_zero, Act.put, List.setIfInBounds_toArray, List.set_cons_zero, List.set_cons_succ])
    obtain ⟨hR, hS, hBB, _⟩ := box2 (cur_below hc)
    have HT := Lib.hid hBB
    clear hBB hc
    have cR0 : wf46.cell? ⟨w.heap.size, 0, none⟩ = some (.bool false) := cell_blk hR 0
    have cR1 : wf46.cell? ⟨w.heap.size, 1, none⟩ = some (.int .u64 0) := cell_blk hR 1
    have cR2 : wf46.cell? ⟨w.heap.size, 2, none⟩ = some (.int .u64 0) := cell_blk hR 2
    have cR3 : wf46.cell? ⟨w.heap.size, 3, none⟩ = some (.int .i64 0) := cell_blk hR 3
    have fR := free_blk hR
    have lR := blkF hR
    refine wpAnyH_ready (rs := [3]) (by kernel_rfl) (by simp) ?_
    refine AllReadyH.cons rfl (fun K hK => ?_) AllReadyH.nil
    go_simp
    replace hF := (st4_blk_farF (.bool n0) (.int .u64 h0) (.int .u64 l0) (.int .i64 d0) (show w.heap.size ≠ w2.heap.size by omega)).trans hF
    replace hS := (st4_blk_farF (.bool n0) (.int .u64 h0) (.int .u64 l0) (.int .i64 d0) (show w.heap.size ≠ w.heap.size + 1 by omega)).trans hS
    have hR2 := st4_blkF (b0 := .bool n0) (b1 := .int .u64 h0) (b2 := .int .u64 l0) (b3 := .int .i64 d0) hR
    replace HT := Lib.hid (st4_belowF (X := w.heap.size) HT.out (by omega) (.bool n0) (.int .u64 h0) (.int .u64 l0) (.int .i64 d0))
    clear hR cR0 cR1 cR2 cR3 fR lR
    refine hK.out _ _ ?_ (fun hHeld => ?_)
    · exact ⟨cell_blk hF 0, cell_blk hF 1, cell_blk hF 2, cell_blk hF 3⟩
    clear hK K
    (try simp only [List.getElem_toArray, List.getElem_cons_succ, List.getElem_cons_zero, Act.put, List.setIfInBounds_toArray, List.set_cons_zero, List.set_cons_succ])
    generalize ((((wf46.setCell ⟨w.heap.size, 0, none⟩ (.bool n0)).setCell ⟨w.heap.size, 1, none⟩ (.int .u64 h0)).setCell ⟨w.heap.size, 2, none⟩ (.int .u64 l0)).setCell ⟨w.heap.size, 3, none⟩ (.int .i64 d0)) = ws47 at hF hS hR2 HT hHeld ⊢
    have cS0 : ws47.cell? ⟨w.heap.size + 1, 0, none⟩ = some (.bool false) := cell_blk hS 0
    have cS1 : ws47.cell? ⟨w.heap.size + 1, 1, none⟩ = some (.int .u64 0) := cell_blk hS 1
    have cS2 : ws47.cell? ⟨w.heap.size + 1, 2, none⟩ = some (.int .u64 0) := cell_blk hS 2
    have cS3 : ws47.cell? ⟨w.heap.size + 1, 3, none⟩ = some (.int .i64 0) := cell_blk hS 3
    have fS := free_blk hS
    have lS := blkF hS
    refine wpAnyH_ready (rs := [4]) (by kernel_rfl) (by simp) ?_
    refine AllReadyH.cons rfl (fun K hK => ?_) AllReadyH.nil
    go_simp
    replace hF := (st4_blk_farF (.bool n1) (.int .u64 h1) (.int .u64 l1) (.int .i64 d1) (show w.heap.size + 1 ≠ w2.heap.size by omega)).trans hF
    replace hR2 := (st4_blk_farF (.bool n1) (.int .u64 h1) (.int .u64 l1) (.int .i64 d1) (show w.heap.size + 1 ≠ w.heap.size by omega)).trans hR2
    have hS2 := st4_blkF (b0 := .bool n1) (b1 := .int .u64 h1) (b2 := .int .u64 l1) (b3 := .int .i64 d1) hS
    replace HT := Lib.hid (st4_belowF (X := w.heap.size + 1) HT.out (by omega) (.bool n1) (.int .u64 h1) (.int .u64 l1) (.int .i64 d1))
    clear hS cS0 cS1 cS2 cS3 fS lS
    refine hK.out _ _ ?_ (fun hHeld => ?_)
    · exact ⟨cell_blk hF 0, cell_blk hF 1, cell_blk hF 2, cell_blk hF 3⟩
    clear hK K
    (try simp only [List.getElem_toArray, List.getElem_cons_succ, List.getElem_cons_zero, Act.put, List.setIfInBounds_toArray, List.set_cons_zero, List.set_cons_succ])
    generalize ((((ws47.setCell ⟨w.heap.size + 1, 0, none⟩ (.bool n1)).setCell ⟨w.heap.size + 1, 1, none⟩ (.int .u64 h1)).setCell ⟨w.heap.size + 1, 2, none⟩ (.int .u64 l1)).setCell ⟨w.heap.size + 1, 3, none⟩ (.int .i64 d1)) = wt48 at hF hS2 hR2 HT hHeld ⊢
    refine wpAnyH_done (by kernel_rfl) ?_ _
    refine NoPanic.normal ?_
    have e0 : wt48.cell? ⟨w.heap.size, 0, none⟩ = some (.bool n0) := cell_blk hR2 0
    have e1 : wt48.cell? ⟨w.heap.size, 1, none⟩ = some (.int .u64 h0) := cell_blk hR2 1
    have e2 : wt48.cell? ⟨w.heap.size, 2, none⟩ = some (.int .u64 l0) := cell_blk hR2 2
    have e3 : wt48.cell? ⟨w.heap.size, 3, none⟩ = some (.int .i64 d0) := cell_blk hR2 3
    have g0 : wt48.cell? ⟨w.heap.size + 1, 0, none⟩ = some (.bool n1) := cell_blk hS2 0
    have g1 : wt48.cell? ⟨w.heap.size + 1, 1, none⟩ = some (.int .u64 h1) := cell_blk hS2 1
    have g2 : wt48.cell? ⟨w.heap.size + 1, 2, none⟩ = some (.int .u64 l1) := cell_blk hS2 2
    have g3 : wt48.cell? ⟨w.heap.size + 1, 3, none⟩ = some (.int .i64 d1) := cell_blk hS2 3
    clear hR2 hS2 hHeld
    go_wp2_with fail
    (try simp only [Exit.inBlock, Exit.then])
    refine bodyPost_ret (v := .tuple #[.agg #[.bool n0, .int .u64 h0, .int .u64 l0, .int .i64 d0], .agg #[.bool n1, .int .u64 h1, .int .u64 l1, .int .i64 d1]]) ?_ rfl ⟨⟨_, _, _, _, _, _, _, _, ⟨hh, hl, hd⟩, ⟨hh1, hl1, hd1⟩, rfl⟩, HT.out⟩
    rw [results_cells2 rfl]
    go_simp
end Go.Proofs.YtapdocfifgnjgaaDoor
