/-
  Settings that are drawn and bent.
-/
import Derived.Test.YtnnbhgnllbjmeaaGreatDoorCfgD
namespace Go.Proofs.YtnnbhgnllbjmeaaGreatDoor
open Go.RowKit

/-- What is drawn: settings whose signs lie in memory of their own. -/
def BtOut (w0 : World) (e : Ending) (w' : World) : Prop :=
  ∃ C v, e = .returned (cfgV C v) ∧ w'.ownsRow w0.heap.size 3 1 v C.s.length (intCells C.s) ∧ C.s.length ≤ 6
set_option maxRecDepth 100000 in
set_option maxHeartbeats 8000000 in
theorem l8Bent (W w : World) (p : Nat) (hc : Cur W w p) :
    Calls Tryz.prog 19 #[.pointer (some ⟨p, 0, none⟩)] w fun e w' => BtOut w e w' ∧ Cur W w' p ∧ w.grownBy w' (some p) := by
  obtain ⟨iI, hi, hz0, hz1, hz2⟩ := info_parts infoInt
  have hlp := hc.lt
  have xr := alloc_blk w #[.int .i64 0, .int .i64 0, .int .i64 0, .int .i64 0, .int .i64 0, .int .i64 0, .int .i64 0, .slice none 0 0] 26
  have XR := Lib.hid xr
  have HC := Lib.hid (hc.alloc (.cells #[.int .i64 0, .int .i64 0, .int .i64 0, .int .i64 0, .int .i64 0, .int .i64 0, .int .i64 0, .slice none 0 0] 26))
  clear xr hc
  go_enter Tryz.func19, Tryz.ntmps19
  go_wp2_with fail
  refine (l8Right W _ p HC.out).mono ?_
  rintro e w1 ⟨⟨D, v, rfl, ho, hl5, he1, he4⟩, hc, hg⟩
  obtain ⟨va, vc, rfl⟩ := ownsI_form ho
  simp only [cfgV]
  have xr1 := (hg.block _ (blk_lt XR.out) (fun e => by injection e with e; omega)).trans XR.out
  have hgr := grownBy_trans (grownBy_alc w (.cells #[.int .i64 0, .int .i64 0, .int .i64 0, .int .i64 0, .int .i64 0, .int .i64 0, .int .i64 0, .slice none 0 0] 26) (some p)) hg
  have hO1 := World.ownsRow.mono (base' := w.heap.size) ho (by simp)
  have hB1 : RtB W w (w1.alloc (.cells #[.int .i64 D.r, .int .i64 D.d, .int .i64 D.b, .int .i64 D.l, .int .i64 D.m, .int .i64 D.n, .int .i64 D.e, .slice va D.s.length vc] 26)) p w1.heap.size D (.slice va D.s.length vc) := ⟨hc.alloc _, blk_alloc xr1 _, alloc_blk w1 _ _, hlp, blk_lt xr1, grownBy_trans hgr (grownBy_alc w1 _ _)⟩
  have HB := Lib.hid hB1
  have HO := Lib.hid (hO1.alloc (.cells #[.int .i64 D.r, .int .i64 D.d, .int .i64 D.b, .int .i64 D.l, .int .i64 D.m, .int .i64 D.n, .int .i64 D.e, .slice va D.s.length vc] 26))
  have hb3 := blk_lt xr1
  clear xr1 hgr hO1 hB1 ho hc hg HC XR
  go_wp2_with fail
  generalize w1.alloc (.cells #[.int .i64 D.r, .int .i64 D.d, .int .i64 D.b, .int .i64 D.l, .int .i64 D.m, .int .i64 D.n, .int .i64 D.e, .slice va D.s.length vc] 26) = wa at HB HO ⊢
  obtain ⟨b3, hbb⟩ : ∃ b3, w1.heap.size = b3 := ⟨_, rfl⟩
  rw [hbb] at HB hb3 ⊢
  clear hbb hb3
  refine (l1Below W _ p 12 (by omega) (by omega) HB.out.cur).mono ?_
  rintro e w2 ⟨⟨m, hm, rfl⟩, hc, hg⟩
  have hO2 := own_next8 HO.out hlp hg
  replace HB := Lib.hid (HB.out.next hc hg)
  replace HO := Lib.hid hO2
  have hp2 := HB.out.cur.lt
  clear hc hg hO2
  rcases (by omega : m = 0 ∨ m = 1 ∨ m = 2 ∨ m = 3 ∨ m = 4 ∨ m = 5 ∨ m = 6 ∨ m = 7 ∨ 8 ≤ m) with rfl | rfl | rfl | rfl | rfl | rfl | rfl | rfl | hm8
  · skip
    go_wp2_with fail
    refine (l1PickInt W _ p w2.heap.size 5 (by omega) (by omega) (by omega) ?_ (HB.out.cur.alloc _)).mono ?_
    · refine intList ?_ ?_
      · rfl
      · decide
    rintro e w3 ⟨⟨z, _, _, rfl⟩, hc, hg⟩
    have hB3 := (HB.out.laid (.cells #[.int .i64 0, .int .i64 1, .int .i64 8, .int .i64 9, .int .i64 (-1)] 3)).next hc hg
    have hO3 := own_next8 (HO.out.alloc (.cells #[.int .i64 0, .int .i64 1, .int .i64 8, .int .i64 9, .int .i64 (-1)] 3)) hlp hg
    clear hc hg 
    replace HB := Lib.hid hB3
    replace HO := Lib.hid hO3
    clear hB3 hO3
    have hl6 : D.s.length ≤ 6 := by omega
    have c0 : w3.cell? ⟨b3, 0, none⟩ = some (.int .i64 D.r) := cell_blk HB.out.box 0
    have cf0 := free_blk HB.out.box 0
    have c1 : w3.cell? ⟨b3, 1, none⟩ = some (.int .i64 D.d) := cell_blk HB.out.box 1
    have cf1 := free_blk HB.out.box 1
    have c2 : w3.cell? ⟨b3, 2, none⟩ = some (.int .i64 D.b) := cell_blk HB.out.box 2
    have cf2 := free_blk HB.out.box 2
    have c3 : w3.cell? ⟨b3, 3, none⟩ = some (.int .i64 D.l) := cell_blk HB.out.box 3
    have cf3 := free_blk HB.out.box 3
    have c4 : w3.cell? ⟨b3, 4, none⟩ = some (.int .i64 D.m) := cell_blk HB.out.box 4
    have cf4 := free_blk HB.out.box 4
    have c5 : w3.cell? ⟨b3, 5, none⟩ = some (.int .i64 D.n) := cell_blk HB.out.box 5
    have cf5 := free_blk HB.out.box 5
    have c6 : w3.cell? ⟨b3, 6, none⟩ = some (.int .i64 D.e) := cell_blk HB.out.box 6
    have cf6 := free_blk HB.out.box 6
    have c7 : w3.cell? ⟨b3, 7, none⟩ = some (.slice va D.s.length vc) := cell_blk HB.out.box 7
    have cf7 := free_blk HB.out.box 7
    have cl := blk_lt HB.out.box
    have r0 := cell_blk HB.out.res 0
    have rf0 := free_blk HB.out.res 0
    have r1 := cell_blk HB.out.res 1
    have rf1 := free_blk HB.out.res 1
    have r2 := cell_blk HB.out.res 2
    have rf2 := free_blk HB.out.res 2
    have r3 := cell_blk HB.out.res 3
    have rf3 := free_blk HB.out.res 3
    have r4 := cell_blk HB.out.res 4
    have rf4 := free_blk HB.out.res 4
    have r5 := cell_blk HB.out.res 5
    have rf5 := free_blk HB.out.res 5
    have r6 := cell_blk HB.out.res 6
    have rf6 := free_blk HB.out.res 6
    have r7 := cell_blk HB.out.res 7
    have rf7 := free_blk HB.out.res 7
    have rl := blk_lt HB.out.res
    have hne3 : ¬ (w.heap.size = b3) := by have := HB.out.lb; omega
    have hne4 : ¬ (b3 = w.heap.size) := by have := HB.out.lb; omega
    go_wp2_with fail
    have hB4 : RtB W w (w3.setCell ⟨b3, 0, none⟩ (.int .i64 z)) p b3 { D with r := z } (.slice va D.s.length vc) := HB.out.put rfl
    have hO4 := ownsRow_setCell_other (a := ⟨b3, 0, none⟩) HO.out (owns_ne_blk HO.out HB.out.box (by decide)) (.int .i64 z)
    refine bodyPost_ret (v := cfgV { D with r := z } (.slice va D.s.length vc)) ?_ rfl ⟨⟨{ D with r := z }, _, rfl, ?_, hl6⟩, ?_, ?_⟩
    · rw [results_one rfl]
      simp only [cfgV]
      go_simp
    · iterate 8 refine ownsRow_setCell_other ?_ (owns_ne_blk hO4 hB4.res (by decide)) _
      exact hO4
    · iterate 8 refine Cur.far8 ?_ hlp
      exact hB4.cur
    · iterate 8 refine grown_set8 ?_ (Nat.le_refl _)
      exact hB4.grw
  · skip
    go_wp2_with fail
    refine (l1PickInt W _ p w2.heap.size 4 (by omega) (by omega) (by omega) ?_ (HB.out.cur.alloc _)).mono ?_
    · refine intList ?_ ?_
      · rfl
      · decide
    rintro e w3 ⟨⟨z, _, _, rfl⟩, hc, hg⟩
    have hB3 := (HB.out.laid (.cells #[.int .i64 (-1), .int .i64 0, .int .i64 4, .int .i64 5] 3)).next hc hg
    have hO3 := own_next8 (HO.out.alloc (.cells #[.int .i64 (-1), .int .i64 0, .int .i64 4, .int .i64 5] 3)) hlp hg
    clear hc hg 
    replace HB := Lib.hid hB3
    replace HO := Lib.hid hO3
    clear hB3 hO3
    have hl6 : D.s.length ≤ 6 := by omega
    have c0 : w3.cell? ⟨b3, 0, none⟩ = some (.int .i64 D.r) := cell_blk HB.out.box 0
    have cf0 := free_blk HB.out.box 0
    have c1 : w3.cell? ⟨b3, 1, none⟩ = some (.int .i64 D.d) := cell_blk HB.out.box 1
    have cf1 := free_blk HB.out.box 1
    have c2 : w3.cell? ⟨b3, 2, none⟩ = some (.int .i64 D.b) := cell_blk HB.out.box 2
    have cf2 := free_blk HB.out.box 2
    have c3 : w3.cell? ⟨b3, 3, none⟩ = some (.int .i64 D.l) := cell_blk HB.out.box 3
    have cf3 := free_blk HB.out.box 3
    have c4 : w3.cell? ⟨b3, 4, none⟩ = some (.int .i64 D.m) := cell_blk HB.out.box 4
    have cf4 := free_blk HB.out.box 4
    have c5 : w3.cell? ⟨b3, 5, none⟩ = some (.int .i64 D.n) := cell_blk HB.out.box 5
    have cf5 := free_blk HB.out.box 5
    have c6 : w3.cell? ⟨b3, 6, none⟩ = some (.int .i64 D.e) := cell_blk HB.out.box 6
    have cf6 := free_blk HB.out.box 6
    have c7 : w3.cell? ⟨b3, 7, none⟩ = some (.slice va D.s.length vc) := cell_blk HB.out.box 7
    have cf7 := free_blk HB.out.box 7
    have cl := blk_lt HB.out.box
    have r0 := cell_blk HB.out.res 0
    have rf0 := free_blk HB.out.res 0
    have r1 := cell_blk HB.out.res 1
    have rf1 := free_blk HB.out.res 1
    have r2 := cell_blk HB.out.res 2
    have rf2 := free_blk HB.out.res 2
    have r3 := cell_blk HB.out.res 3
    have rf3 := free_blk HB.out.res 3
    have r4 := cell_blk HB.out.res 4
    have rf4 := free_blk HB.out.res 4
    have r5 := cell_blk HB.out.res 5
    have rf5 := free_blk HB.out.res 5
    have r6 := cell_blk HB.out.res 6
    have rf6 := free_blk HB.out.res 6
    have r7 := cell_blk HB.out.res 7
    have rf7 := free_blk HB.out.res 7
    have rl := blk_lt HB.out.res
    have hne3 : ¬ (w.heap.size = b3) := by have := HB.out.lb; omega
    have hne4 : ¬ (b3 = w.heap.size) := by have := HB.out.lb; omega
    go_wp2_with fail
    have hB4 : RtB W w (w3.setCell ⟨b3, 1, none⟩ (.int .i64 z)) p b3 { D with d := z } (.slice va D.s.length vc) := HB.out.put rfl
    have hO4 := ownsRow_setCell_other (a := ⟨b3, 1, none⟩) HO.out (owns_ne_blk HO.out HB.out.box (by decide)) (.int .i64 z)
    refine bodyPost_ret (v := cfgV { D with d := z } (.slice va D.s.length vc)) ?_ rfl ⟨⟨{ D with d := z }, _, rfl, ?_, hl6⟩, ?_, ?_⟩
    · rw [results_one rfl]
      simp only [cfgV]
      go_simp
    · iterate 8 refine ownsRow_setCell_other ?_ (owns_ne_blk hO4 hB4.res (by decide)) _
      exact hO4
    · iterate 8 refine Cur.far8 ?_ hlp
      exact hB4.cur
    · iterate 8 refine grown_set8 ?_ (Nat.le_refl _)
      exact hB4.grw
  · skip
    go_wp2_with fail
    refine (l1PickInt W _ p w2.heap.size 4 (by omega) (by omega) (by omega) ?_ (HB.out.cur.alloc _)).mono ?_
    · refine intList ?_ ?_
      · rfl
      · decide
    rintro e w3 ⟨⟨z, _, _, rfl⟩, hc, hg⟩
    have hB3 := (HB.out.laid (.cells #[.int .i64 1, .int .i64 2, .int .i64 8, .int .i64 9] 3)).next hc hg
    have hO3 := own_next8 (HO.out.alloc (.cells #[.int .i64 1, .int .i64 2, .int .i64 8, .int .i64 9] 3)) hlp hg
    clear hc hg 
    replace HB := Lib.hid hB3
    replace HO := Lib.hid hO3
    clear hB3 hO3
    have hl6 : D.s.length ≤ 6 := by omega
    have c0 : w3.cell? ⟨b3, 0, none⟩ = some (.int .i64 D.r) := cell_blk HB.out.box 0
    have cf0 := free_blk HB.out.box 0
    have c1 : w3.cell? ⟨b3, 1, none⟩ = some (.int .i64 D.d) := cell_blk HB.out.box 1
    have cf1 := free_blk HB.out.box 1
    have c2 : w3.cell? ⟨b3, 2, none⟩ = some (.int .i64 D.b) := cell_blk HB.out.box 2
    have cf2 := free_blk HB.out.box 2
    have c3 : w3.cell? ⟨b3, 3, none⟩ = some (.int .i64 D.l) := cell_blk HB.out.box 3
    have cf3 := free_blk HB.out.box 3
    have c4 : w3.cell? ⟨b3, 4, none⟩ = some (.int .i64 D.m) := cell_blk HB.out.box 4
    have cf4 := free_blk HB.out.box 4
    have c5 : w3.cell? ⟨b3, 5, none⟩ = some (.int .i64 D.n) := cell_blk HB.out.box 5
    have cf5 := free_blk HB.out.box 5
    have c6 : w3.cell? ⟨b3, 6, none⟩ = some (.int .i64 D.e) := cell_blk HB.out.box 6
    have cf6 := free_blk HB.out.box 6
    have c7 : w3.cell? ⟨b3, 7, none⟩ = some (.slice va D.s.length vc) := cell_blk HB.out.box 7
    have cf7 := free_blk HB.out.box 7
    have cl := blk_lt HB.out.box
    have r0 := cell_blk HB.out.res 0
    have rf0 := free_blk HB.out.res 0
    have r1 := cell_blk HB.out.res 1
    have rf1 := free_blk HB.out.res 1
    have r2 := cell_blk HB.out.res 2
    have rf2 := free_blk HB.out.res 2
    have r3 := cell_blk HB.out.res 3
    have rf3 := free_blk HB.out.res 3
    have r4 := cell_blk HB.out.res 4
    have rf4 := free_blk HB.out.res 4
    have r5 := cell_blk HB.out.res 5
    have rf5 := free_blk HB.out.res 5
    have r6 := cell_blk HB.out.res 6
    have rf6 := free_blk HB.out.res 6
    have r7 := cell_blk HB.out.res 7
    have rf7 := free_blk HB.out.res 7
    have rl := blk_lt HB.out.res
    have hne3 : ¬ (w.heap.size = b3) := by have := HB.out.lb; omega
    have hne4 : ¬ (b3 = w.heap.size) := by have := HB.out.lb; omega
    go_wp2_with fail
    have hB4 : RtB W w (w3.setCell ⟨b3, 2, none⟩ (.int .i64 z)) p b3 { D with b := z } (.slice va D.s.length vc) := HB.out.put rfl
    have hO4 := ownsRow_setCell_other (a := ⟨b3, 2, none⟩) HO.out (owns_ne_blk HO.out HB.out.box (by decide)) (.int .i64 z)
    refine bodyPost_ret (v := cfgV { D with b := z } (.slice va D.s.length vc)) ?_ rfl ⟨⟨{ D with b := z }, _, rfl, ?_, hl6⟩, ?_, ?_⟩
    · rw [results_one rfl]
      simp only [cfgV]
      go_simp
    · iterate 8 refine ownsRow_setCell_other ?_ (owns_ne_blk hO4 hB4.res (by decide)) _
      exact hO4
    · iterate 8 refine Cur.far8 ?_ hlp
      exact hB4.cur
    · iterate 8 refine grown_set8 ?_ (Nat.le_refl _)
      exact hB4.grw
  · skip
    go_wp2_with fail
    refine (l1PickInt W _ p w2.heap.size 5 (by omega) (by omega) (by omega) ?_ (HB.out.cur.alloc _)).mono ?_
    · refine intList ?_ ?_
      · rfl
      · simp
    rintro e w3 ⟨⟨z, _, _, rfl⟩, hc, hg⟩
    have hB3 := (HB.out.laid (.cells #[.int .i64 0, .int .i64 1, .int .i64 100, .int .i64 101, .int .i64 9223372036854775807] 3)).next hc hg
    have hO3 := own_next8 (HO.out.alloc (.cells #[.int .i64 0, .int .i64 1, .int .i64 100, .int .i64 101, .int .i64 9223372036854775807] 3)) hlp hg
    clear hc hg 
    replace HB := Lib.hid hB3
    replace HO := Lib.hid hO3
    clear hB3 hO3
    have hl6 : D.s.length ≤ 6 := by omega
    have c0 : w3.cell? ⟨b3, 0, none⟩ = some (.int .i64 D.r) := cell_blk HB.out.box 0
    have cf0 := free_blk HB.out.box 0
    have c1 : w3.cell? ⟨b3, 1, none⟩ = some (.int .i64 D.d) := cell_blk HB.out.box 1
    have cf1 := free_blk HB.out.box 1
    have c2 : w3.cell? ⟨b3, 2, none⟩ = some (.int .i64 D.b) := cell_blk HB.out.box 2
    have cf2 := free_blk HB.out.box 2
    have c3 : w3.cell? ⟨b3, 3, none⟩ = some (.int .i64 D.l) := cell_blk HB.out.box 3
    have cf3 := free_blk HB.out.box 3
    have c4 : w3.cell? ⟨b3, 4, none⟩ = some (.int .i64 D.m) := cell_blk HB.out.box 4
    have cf4 := free_blk HB.out.box 4
    have c5 : w3.cell? ⟨b3, 5, none⟩ = some (.int .i64 D.n) := cell_blk HB.out.box 5
    have cf5 := free_blk HB.out.box 5
    have c6 : w3.cell? ⟨b3, 6, none⟩ = some (.int .i64 D.e) := cell_blk HB.out.box 6
    have cf6 := free_blk HB.out.box 6
    have c7 : w3.cell? ⟨b3, 7, none⟩ = some (.slice va D.s.length vc) := cell_blk HB.out.box 7
    have cf7 := free_blk HB.out.box 7
    have cl := blk_lt HB.out.box
    have r0 := cell_blk HB.out.res 0
    have rf0 := free_blk HB.out.res 0
    have r1 := cell_blk HB.out.res 1
    have rf1 := free_blk HB.out.res 1
    have r2 := cell_blk HB.out.res 2
    have rf2 := free_blk HB.out.res 2
    have r3 := cell_blk HB.out.res 3
    have rf3 := free_blk HB.out.res 3
    have r4 := cell_blk HB.out.res 4
    have rf4 := free_blk HB.out.res 4
    have r5 := cell_blk HB.out.res 5
    have rf5 := free_blk HB.out.res 5
    have r6 := cell_blk HB.out.res 6
    have rf6 := free_blk HB.out.res 6
    have r7 := cell_blk HB.out.res 7
    have rf7 := free_blk HB.out.res 7
    have rl := blk_lt HB.out.res
    have hne3 : ¬ (w.heap.size = b3) := by have := HB.out.lb; omega
    have hne4 : ¬ (b3 = w.heap.size) := by have := HB.out.lb; omega
    go_wp2_with fail
    have hB4 : RtB W w (w3.setCell ⟨b3, 3, none⟩ (.int .i64 z)) p b3 { D with l := z } (.slice va D.s.length vc) := HB.out.put rfl
    have hO4 := ownsRow_setCell_other (a := ⟨b3, 3, none⟩) HO.out (owns_ne_blk HO.out HB.out.box (by decide)) (.int .i64 z)
    refine bodyPost_ret (v := cfgV { D with l := z } (.slice va D.s.length vc)) ?_ rfl ⟨⟨{ D with l := z }, _, rfl, ?_, hl6⟩, ?_, ?_⟩
    · rw [results_one rfl]
      simp only [cfgV]
      go_simp
    · iterate 8 refine ownsRow_setCell_other ?_ (owns_ne_blk hO4 hB4.res (by decide)) _
      exact hO4
    · iterate 8 refine Cur.far8 ?_ hlp
      exact hB4.cur
    · iterate 8 refine grown_set8 ?_ (Nat.le_refl _)
      exact hB4.grw
  · skip
    go_wp2_with fail
    refine (l1PickInt W _ p w2.heap.size 4 (by omega) (by omega) (by omega) ?_ (HB.out.cur.alloc _)).mono ?_
    · refine intList ?_ ?_
      · rfl
      · decide
    rintro e w3 ⟨⟨z, _, _, rfl⟩, hc, hg⟩
    have hB3 := (HB.out.laid (.cells #[.int .i64 0, .int .i64 1, .int .i64 20, .int .i64 21] 3)).next hc hg
    have hO3 := own_next8 (HO.out.alloc (.cells #[.int .i64 0, .int .i64 1, .int .i64 20, .int .i64 21] 3)) hlp hg
    clear hc hg 
    replace HB := Lib.hid hB3
    replace HO := Lib.hid hO3
    clear hB3 hO3
    have hl6 : D.s.length ≤ 6 := by omega
    have c0 : w3.cell? ⟨b3, 0, none⟩ = some (.int .i64 D.r) := cell_blk HB.out.box 0
    have cf0 := free_blk HB.out.box 0
    have c1 : w3.cell? ⟨b3, 1, none⟩ = some (.int .i64 D.d) := cell_blk HB.out.box 1
    have cf1 := free_blk HB.out.box 1
    have c2 : w3.cell? ⟨b3, 2, none⟩ = some (.int .i64 D.b) := cell_blk HB.out.box 2
    have cf2 := free_blk HB.out.box 2
    have c3 : w3.cell? ⟨b3, 3, none⟩ = some (.int .i64 D.l) := cell_blk HB.out.box 3
    have cf3 := free_blk HB.out.box 3
    have c4 : w3.cell? ⟨b3, 4, none⟩ = some (.int .i64 D.m) := cell_blk HB.out.box 4
    have cf4 := free_blk HB.out.box 4
    have c5 : w3.cell? ⟨b3, 5, none⟩ = some (.int .i64 D.n) := cell_blk HB.out.box 5
    have cf5 := free_blk HB.out.box 5
    have c6 : w3.cell? ⟨b3, 6, none⟩ = some (.int .i64 D.e) := cell_blk HB.out.box 6
    have cf6 := free_blk HB.out.box 6
    have c7 : w3.cell? ⟨b3, 7, none⟩ = some (.slice va D.s.length vc) := cell_blk HB.out.box 7
    have cf7 := free_blk HB.out.box 7
    have cl := blk_lt HB.out.box
    have r0 := cell_blk HB.out.res 0
    have rf0 := free_blk HB.out.res 0
    have r1 := cell_blk HB.out.res 1
    have rf1 := free_blk HB.out.res 1
    have r2 := cell_blk HB.out.res 2
    have rf2 := free_blk HB.out.res 2
    have r3 := cell_blk HB.out.res 3
    have rf3 := free_blk HB.out.res 3
    have r4 := cell_blk HB.out.res 4
    have rf4 := free_blk HB.out.res 4
    have r5 := cell_blk HB.out.res 5
    have rf5 := free_blk HB.out.res 5
    have r6 := cell_blk HB.out.res 6
    have rf6 := free_blk HB.out.res 6
    have r7 := cell_blk HB.out.res 7
    have rf7 := free_blk HB.out.res 7
    have rl := blk_lt HB.out.res
    have hne3 : ¬ (w.heap.size = b3) := by have := HB.out.lb; omega
    have hne4 : ¬ (b3 = w.heap.size) := by have := HB.out.lb; omega
    go_wp2_with fail
    have hB4 : RtB W w (w3.setCell ⟨b3, 4, none⟩ (.int .i64 z)) p b3 { D with m := z } (.slice va D.s.length vc) := HB.out.put rfl
    have hO4 := ownsRow_setCell_other (a := ⟨b3, 4, none⟩) HO.out (owns_ne_blk HO.out HB.out.box (by decide)) (.int .i64 z)
    refine bodyPost_ret (v := cfgV { D with m := z } (.slice va D.s.length vc)) ?_ rfl ⟨⟨{ D with m := z }, _, rfl, ?_, hl6⟩, ?_, ?_⟩
    · rw [results_one rfl]
      simp only [cfgV]
      go_simp
    · iterate 8 refine ownsRow_setCell_other ?_ (owns_ne_blk hO4 hB4.res (by decide)) _
      exact hO4
    · iterate 8 refine Cur.far8 ?_ hlp
      exact hB4.cur
    · iterate 8 refine grown_set8 ?_ (Nat.le_refl _)
      exact hB4.grw
  · skip
    have c0 : w2.cell? ⟨b3, 0, none⟩ = some (.int .i64 D.r) := cell_blk HB.out.box 0
    have cf0 := free_blk HB.out.box 0
    have c1 : w2.cell? ⟨b3, 1, none⟩ = some (.int .i64 D.d) := cell_blk HB.out.box 1
    have cf1 := free_blk HB.out.box 1
    have c2 : w2.cell? ⟨b3, 2, none⟩ = some (.int .i64 D.b) := cell_blk HB.out.box 2
    have cf2 := free_blk HB.out.box 2
    have c3 : w2.cell? ⟨b3, 3, none⟩ = some (.int .i64 D.l) := cell_blk HB.out.box 3
    have cf3 := free_blk HB.out.box 3
    have c4 : w2.cell? ⟨b3, 4, none⟩ = some (.int .i64 D.m) := cell_blk HB.out.box 4
    have cf4 := free_blk HB.out.box 4
    have c5 : w2.cell? ⟨b3, 5, none⟩ = some (.int .i64 D.n) := cell_blk HB.out.box 5
    have cf5 := free_blk HB.out.box 5
    have c6 : w2.cell? ⟨b3, 6, none⟩ = some (.int .i64 D.e) := cell_blk HB.out.box 6
    have cf6 := free_blk HB.out.box 6
    have c7 : w2.cell? ⟨b3, 7, none⟩ = some (.slice va D.s.length vc) := cell_blk HB.out.box 7
    have cf7 := free_blk HB.out.box 7
    have cl := blk_lt HB.out.box
    go_wp2_with fail
    refine (l1PickInt W _ p w2.heap.size 5 (by omega) (by omega) (by omega) ?_ (HB.out.cur.alloc _)).mono ?_
    · refine intList ?_ ?_
      · rfl
      · simp; omega
    rintro e w3 ⟨⟨z, _, _, rfl⟩, hc, hg⟩
    have hB3 := (HB.out.laid (.cells #[.int .i64 0, .int .i64 1, .int .i64 D.e, .int .i64 (D.e + 1), .int .i64 (-1)] 3)).next hc hg
    have hO3 := own_next8 (HO.out.alloc (.cells #[.int .i64 0, .int .i64 1, .int .i64 D.e, .int .i64 (D.e + 1), .int .i64 (-1)] 3)) hlp hg
    clear hc hg c0 cf0 c1 cf1 c2 cf2 c3 cf3 c4 cf4 c5 cf5 c6 cf6 c7 cf7 cl
    replace HB := Lib.hid hB3
    replace HO := Lib.hid hO3
    clear hB3 hO3
    have hl6 : D.s.length ≤ 6 := by omega
    have c0 : w3.cell? ⟨b3, 0, none⟩ = some (.int .i64 D.r) := cell_blk HB.out.box 0
    have cf0 := free_blk HB.out.box 0
    have c1 : w3.cell? ⟨b3, 1, none⟩ = some (.int .i64 D.d) := cell_blk HB.out.box 1
    have cf1 := free_blk HB.out.box 1
    have c2 : w3.cell? ⟨b3, 2, none⟩ = some (.int .i64 D.b) := cell_blk HB.out.box 2
    have cf2 := free_blk HB.out.box 2
    have c3 : w3.cell? ⟨b3, 3, none⟩ = some (.int .i64 D.l) := cell_blk HB.out.box 3
    have cf3 := free_blk HB.out.box 3
    have c4 : w3.cell? ⟨b3, 4, none⟩ = some (.int .i64 D.m) := cell_blk HB.out.box 4
    have cf4 := free_blk HB.out.box 4
    have c5 : w3.cell? ⟨b3, 5, none⟩ = some (.int .i64 D.n) := cell_blk HB.out.box 5
    have cf5 := free_blk HB.out.box 5
    have c6 : w3.cell? ⟨b3, 6, none⟩ = some (.int .i64 D.e) := cell_blk HB.out.box 6
    have cf6 := free_blk HB.out.box 6
    have c7 : w3.cell? ⟨b3, 7, none⟩ = some (.slice va D.s.length vc) := cell_blk HB.out.box 7
    have cf7 := free_blk HB.out.box 7
    have cl := blk_lt HB.out.box
    have r0 := cell_blk HB.out.res 0
    have rf0 := free_blk HB.out.res 0
    have r1 := cell_blk HB.out.res 1
    have rf1 := free_blk HB.out.res 1
    have r2 := cell_blk HB.out.res 2
    have rf2 := free_blk HB.out.res 2
    have r3 := cell_blk HB.out.res 3
    have rf3 := free_blk HB.out.res 3
    have r4 := cell_blk HB.out.res 4
    have rf4 := free_blk HB.out.res 4
    have r5 := cell_blk HB.out.res 5
    have rf5 := free_blk HB.out.res 5
    have r6 := cell_blk HB.out.res 6
    have rf6 := free_blk HB.out.res 6
    have r7 := cell_blk HB.out.res 7
    have rf7 := free_blk HB.out.res 7
    have rl := blk_lt HB.out.res
    have hne3 : ¬ (w.heap.size = b3) := by have := HB.out.lb; omega
    have hne4 : ¬ (b3 = w.heap.size) := by have := HB.out.lb; omega
    go_wp2_with fail
    have hB4 : RtB W w (w3.setCell ⟨b3, 5, none⟩ (.int .i64 z)) p b3 { D with n := z } (.slice va D.s.length vc) := HB.out.put rfl
    have hO4 := ownsRow_setCell_other (a := ⟨b3, 5, none⟩) HO.out (owns_ne_blk HO.out HB.out.box (by decide)) (.int .i64 z)
    refine bodyPost_ret (v := cfgV { D with n := z } (.slice va D.s.length vc)) ?_ rfl ⟨⟨{ D with n := z }, _, rfl, ?_, hl6⟩, ?_, ?_⟩
    · rw [results_one rfl]
      simp only [cfgV]
      go_simp
    · iterate 8 refine ownsRow_setCell_other ?_ (owns_ne_blk hO4 hB4.res (by decide)) _
      exact hO4
    · iterate 8 refine Cur.far8 ?_ hlp
      exact hB4.cur
    · iterate 8 refine grown_set8 ?_ (Nat.le_refl _)
      exact hB4.grw
  · skip
    go_wp2_with fail
    refine (l1PickInt W _ p w2.heap.size 5 (by omega) (by omega) (by omega) ?_ (HB.out.cur.alloc _)).mono ?_
    · refine intList ?_ ?_
      · rfl
      · simp
    rintro e w3 ⟨⟨z, _, _, rfl⟩, hc, hg⟩
    have hB3 := (HB.out.laid (.cells #[.int .i64 0, .int .i64 1, .int .i64 1000, .int .i64 1001, .int .i64 9223372036854775807] 3)).next hc hg
    have hO3 := own_next8 (HO.out.alloc (.cells #[.int .i64 0, .int .i64 1, .int .i64 1000, .int .i64 1001, .int .i64 9223372036854775807] 3)) hlp hg
    clear hc hg 
    replace HB := Lib.hid hB3
    replace HO := Lib.hid hO3
    clear hB3 hO3
    have hl6 : D.s.length ≤ 6 := by omega
    have c0 : w3.cell? ⟨b3, 0, none⟩ = some (.int .i64 D.r) := cell_blk HB.out.box 0
    have cf0 := free_blk HB.out.box 0
    have c1 : w3.cell? ⟨b3, 1, none⟩ = some (.int .i64 D.d) := cell_blk HB.out.box 1
    have cf1 := free_blk HB.out.box 1
    have c2 : w3.cell? ⟨b3, 2, none⟩ = some (.int .i64 D.b) := cell_blk HB.out.box 2
    have cf2 := free_blk HB.out.box 2
    have c3 : w3.cell? ⟨b3, 3, none⟩ = some (.int .i64 D.l) := cell_blk HB.out.box 3
    have cf3 := free_blk HB.out.box 3
    have c4 : w3.cell? ⟨b3, 4, none⟩ = some (.int .i64 D.m) := cell_blk HB.out.box 4
    have cf4 := free_blk HB.out.box 4
    have c5 : w3.cell? ⟨b3, 5, none⟩ = some (.int .i64 D.n) := cell_blk HB.out.box 5
    have cf5 := free_blk HB.out.box 5
    have c6 : w3.cell? ⟨b3, 6, none⟩ = some (.int .i64 D.e) := cell_blk HB.out.box 6
    have cf6 := free_blk HB.out.box 6
    have c7 : w3.cell? ⟨b3, 7, none⟩ = some (.slice va D.s.length vc) := cell_blk HB.out.box 7
    have cf7 := free_blk HB.out.box 7
    have cl := blk_lt HB.out.box
    have r0 := cell_blk HB.out.res 0
    have rf0 := free_blk HB.out.res 0
    have r1 := cell_blk HB.out.res 1
    have rf1 := free_blk HB.out.res 1
    have r2 := cell_blk HB.out.res 2
    have rf2 := free_blk HB.out.res 2
    have r3 := cell_blk HB.out.res 3
    have rf3 := free_blk HB.out.res 3
    have r4 := cell_blk HB.out.res 4
    have rf4 := free_blk HB.out.res 4
    have r5 := cell_blk HB.out.res 5
    have rf5 := free_blk HB.out.res 5
    have r6 := cell_blk HB.out.res 6
    have rf6 := free_blk HB.out.res 6
    have r7 := cell_blk HB.out.res 7
    have rf7 := free_blk HB.out.res 7
    have rl := blk_lt HB.out.res
    have hne3 : ¬ (w.heap.size = b3) := by have := HB.out.lb; omega
    have hne4 : ¬ (b3 = w.heap.size) := by have := HB.out.lb; omega
    go_wp2_with fail
    have hB4 : RtB W w (w3.setCell ⟨b3, 6, none⟩ (.int .i64 z)) p b3 { D with e := z } (.slice va D.s.length vc) := HB.out.put rfl
    have hO4 := ownsRow_setCell_other (a := ⟨b3, 6, none⟩) HO.out (owns_ne_blk HO.out HB.out.box (by decide)) (.int .i64 z)
    refine bodyPost_ret (v := cfgV { D with e := z } (.slice va D.s.length vc)) ?_ rfl ⟨⟨{ D with e := z }, _, rfl, ?_, hl6⟩, ?_, ?_⟩
    · rw [results_one rfl]
      simp only [cfgV]
      go_simp
    · iterate 8 refine ownsRow_setCell_other ?_ (owns_ne_blk hO4 hB4.res (by decide)) _
      exact hO4
    · iterate 8 refine Cur.far8 ?_ hlp
      exact hB4.cur
    · iterate 8 refine grown_set8 ?_ (Nat.le_refl _)
      exact hB4.grw
  · skip
    have c0 : w2.cell? ⟨b3, 0, none⟩ = some (.int .i64 D.r) := cell_blk HB.out.box 0
    have cf0 := free_blk HB.out.box 0
    have c1 : w2.cell? ⟨b3, 1, none⟩ = some (.int .i64 D.d) := cell_blk HB.out.box 1
    have cf1 := free_blk HB.out.box 1
    have c2 : w2.cell? ⟨b3, 2, none⟩ = some (.int .i64 D.b) := cell_blk HB.out.box 2
    have cf2 := free_blk HB.out.box 2
    have c3 : w2.cell? ⟨b3, 3, none⟩ = some (.int .i64 D.l) := cell_blk HB.out.box 3
    have cf3 := free_blk HB.out.box 3
    have c4 : w2.cell? ⟨b3, 4, none⟩ = some (.int .i64 D.m) := cell_blk HB.out.box 4
    have cf4 := free_blk HB.out.box 4
    have c5 : w2.cell? ⟨b3, 5, none⟩ = some (.int .i64 D.n) := cell_blk HB.out.box 5
    have cf5 := free_blk HB.out.box 5
    have c6 : w2.cell? ⟨b3, 6, none⟩ = some (.int .i64 D.e) := cell_blk HB.out.box 6
    have cf6 := free_blk HB.out.box 6
    have c7 : w2.cell? ⟨b3, 7, none⟩ = some (.slice va D.s.length vc) := cell_blk HB.out.box 7
    have cf7 := free_blk HB.out.box 7
    have cl := blk_lt HB.out.box
    go_wp2_with fail
    clear c0 cf0 c1 cf1 c2 cf2 c3 cf3 c4 cf4 c5 cf5 c6 cf6 c7 cf7 cl
    refine wp_region_noPanic ?_
    refine wp_region_held_drew (S := (fun _ => True)) (by kernel_rfl) trivial (fun hHeld => ?_)
    refine wpAnyH_take (i := 0) (oi := ?o29) (v := ?v29) ?hi29 ?hs29 ?hf29 ?hr29 ?hQ29 ?hy29 ?hS29 ?rest29
    case hi29 => rfl
    case hs29 => kernel_rfl
    case hf29 => kernel_rfl
    case hr29 => kernel_rfl
    case hQ29 => exact fun _ _ _ h => h
    case hS29 => assumption
    case hy29 =>
      refine Or.inl ⟨by kernel_rfl, ?_⟩
      intro w' hSw
      (try dsimp only at hSw)
      go_simp
      (try rfl)
    (try simp only [List.getElem_toArray, List.getElem_cons_zero, Act.put, List.setIfInBounds_toArray, List.set_cons_zero, List.set_cons_succ])
    refine wpAnyH_take (i := 2) (oi := ?o30) (v := ?v30) ?hi30 ?hs30 ?hf30 ?hr30 ?hQ30 ?hy30 ?hS30 ?rest30
    case hi30 => rfl
    case hs30 => kernel_rfl
    case hf30 => kernel_rfl
    case hr30 => kernel_rfl
    case hQ30 => exact fun _ _ _ h => h
    case hS30 => assumption
    case hy30 =>
      refine Or.inl ⟨by kernel_rfl, ?_⟩
      intro w' hSw
      (try dsimp only at hSw)
      go_simp
      (try rfl)
    (try simp only [List.getElem_toArray, List.getElem_cons_succ, List.getElem_cons_zero, Act.put, List.setIfInBounds_toArray, List.set_cons_zero, List.set_cons_succ])
    refine wpAnyH_ready (rs := [1, 3]) (by kernel_rfl) (by simp) ?_
    refine AllReadyH.cons rfl (fun K hK => ?_) (AllReadyH.cons rfl (fun K hK => ?_) AllReadyH.nil)
    · have c7x : (w2.drew).cell? ⟨b3, 7, none⟩ = some (.slice va D.s.length vc) := cell_blk (HB.out.drew).box 7
      go_simp
      refine hK.out _ _ trivial (fun hHeld => ?_)
      clear hK K
      (try simp only [List.getElem_toArray, List.getElem_cons_succ, List.getElem_cons_zero, Act.put, List.setIfInBounds_toArray, List.set_cons_zero, List.set_cons_succ])
      clear c7x
      refine wpAnyH_ready (rs := [3]) (by kernel_rfl) (by simp) ?_
      refine AllReadyH.cons rfl (fun K hK => ?_) AllReadyH.nil
      go_simp
      refine (l1Below W _ p 5 (by omega) (by omega) HB.out.drew.cur).mono ?_
      rintro e w5' ⟨⟨mm, hmm, rfl⟩, hc, hg⟩
      have hn1 := HB.out.drew.next hc hg
      have ho1 := own_next8 (wr := w2.drew) HO.out hlp hg
      have hw1 : IntKind.i64.wrap ((mm : Int) - 2) = (mm : Int) - 2 := IntWalk.i64_in _ (by omega)
      clear hc hg
      refine hK.out _ _ trivial (fun hHeld => ?_)
      clear hK K
      (try simp only [List.getElem_toArray, List.getElem_cons_succ, List.getElem_cons_zero, Act.put, List.setIfInBounds_toArray, List.set_cons_zero, List.set_cons_succ])
      refine wpAnyH_take (i := 4) (oi := ?o31) (v := ?v31) ?hi31 ?hs31 ?hf31 ?hr31 ?hQ31 ?hy31 ?hS31 ?rest31
      case hi31 => rfl
      case hs31 => kernel_rfl
      case hf31 => kernel_rfl
      case hr31 => kernel_rfl
      case hQ31 => exact fun _ _ _ h => h
      case hS31 => assumption
      case hy31 =>
        refine Or.inl ⟨by kernel_rfl, ?_⟩
        intro w' hSw
        (try dsimp only at hSw)
        go_simp
        (try rfl)
      (try simp only [List.getElem_toArray, List.getElem_cons_succ, List.getElem_cons_zero, Act.put, List.setIfInBounds_toArray, List.set_cons_zero, List.set_cons_succ])
      refine wpAnyH_ready (rs := [5]) (by kernel_rfl) (by simp) ?_
      refine AllReadyH.cons rfl (fun K hK => ?_) AllReadyH.nil
      go_simp
      refine hK.out _ _ trivial (fun hHeld => ?_)
      clear hK K
      (try simp only [List.getElem_toArray, List.getElem_cons_succ, List.getElem_cons_zero, Act.put, List.setIfInBounds_toArray, List.set_cons_zero, List.set_cons_succ])
      refine wpAnyH_ready (rs := [6]) (by kernel_rfl) (by simp) ?_
      refine AllReadyH.cons rfl (fun K hK => ?_) AllReadyH.nil
      refine step_append_lies _ rfl (.tmp 58) (.tmp 62) 24 rfl w.heap.size 3 iI (.int .i64 0) 1 8 Tryz.underlying24 hi hz0 hz1 hz2 rfl (by decide) (.slice va D.s.length vc) D.s.length (intCells D.s) (by simp [Act.eval]) (ho1.alloc (.cells #[.int .i64 ((mm : Int) - 2)] 3)) ⟨w5'.heap.size, 0, none⟩ 1 1 [.int .i64 ((mm : Int) - 2)] (by simp [Act.eval]) rfl news_one (by intro y hy; simp at hy; subst hy; rfl) (by omega) (by unfold maxLen; omega) (by omega) (by have := (hn1.laid (.cells #[.int .i64 ((mm : Int) - 2)] 3)).grw.size; exact this) (w5'.heap.size + 1) (by simp) ?_
      intro g cap w8' hown8 hg8 _ hlt8
      have hn2 := RtB.app (hn1.laid (.cells #[.int .i64 ((mm : Int) - 2)] 3)) (ho1.alloc (.cells #[.int .i64 ((mm : Int) - 2)] 3)) hg8
      refine hK.out _ _ trivial (fun hHeld => ?_)
      clear hK K
      (try simp only [List.getElem_toArray, List.getElem_cons_succ, List.getElem_cons_zero, Act.put, List.setIfInBounds_toArray, List.set_cons_zero, List.set_cons_succ])
      refine wpAnyH_take (i := 7) (oi := ?o32) (v := ?v32) ?hi32 ?hs32 ?hf32 ?hr32 ?hQ32 ?hy32 ?hS32 ?rest32
      case hi32 => rfl
      case hs32 => kernel_rfl
      case hf32 => kernel_rfl
      case hr32 => kernel_rfl
      case hQ32 => exact fun _ _ _ h => h
      case hS32 => assumption
      case hy32 =>
        refine Or.inl ⟨by kernel_rfl, ?_⟩
        intro w' hSw
        (try dsimp only at hSw)
        go_simp
        (try rfl)
      (try simp only [List.getElem_toArray, List.getElem_cons_succ, List.getElem_cons_zero, Act.put, List.setIfInBounds_toArray, List.set_cons_zero, List.set_cons_succ])
      have c7s : w8'.cell? ⟨b3, 7, none⟩ = some (.slice va D.s.length vc) := cell_blk hn2.box 7
      have cf7s := free_blk hn2.box 7
      have cl7s := blk_lt hn2.box
      refine wpAnyH_ready (rs := [8]) (by kernel_rfl) (by simp) ?_
      refine AllReadyH.cons rfl (fun K hK => ?_) AllReadyH.nil
      go_simp
      refine hK.out _ _ trivial (fun hHeld => ?_)
      clear hK K
      (try simp only [List.getElem_toArray, List.getElem_cons_succ, List.getElem_cons_zero, Act.put, List.setIfInBounds_toArray, List.set_cons_zero, List.set_cons_succ])
      refine wpAnyH_done (by kernel_rfl) ?_ _
      refine NoPanic.normal ?_
      have hn3 : RtB W w (w8'.setCell ⟨b3, 7, none⟩ (.slice (some ⟨g, 0, none⟩) (D.s.length + 1) cap)) p b3 { D with s := D.s ++ [(mm : Int) - 2] } (.slice (some ⟨g, 0, none⟩) (D.s.length + 1) cap) := hn2.put rfl
      have hown9 := ownsRow_setCell_other (a := ⟨b3, 7, none⟩) hown8 (owns_ne_blk hown8 hn2.box (by decide)) (.slice (some ⟨g, 0, none⟩) (D.s.length + 1) cap)
      have hown10 := row9 hown9
      obtain ⟨E, hE⟩ : ∃ E : Cfg, E = { D with s := D.s ++ [(mm : Int) - 2] } := ⟨_, rfl⟩
      have hEs : E.s.length = D.s.length + 1 := by rw [hE]; simp
      rw [← hE] at hn3
      have hO10 : (w8'.setCell ⟨b3, 7, none⟩ (.slice (some ⟨g, 0, none⟩) (D.s.length + 1) cap)).ownsRow w.heap.size 3 1 (.slice (some ⟨g, 0, none⟩) (D.s.length + 1) cap) E.s.length (intCells E.s) := by rw [hE]; exact hown10
      have hl6 : E.s.length ≤ 6 := by omega
      have HN3 := Lib.hid hn3
      have HO9 := Lib.hid hO10
      clear c7s cf7s cl7s hn3 hown9 hown8 hg8 hlt8 hn2 hn1 ho1 hw1 hHeld HB HO hown10 hO10 hE hEs
      generalize w8'.setCell ⟨b3, 7, none⟩ (.slice (some ⟨g, 0, none⟩) (D.s.length + 1) cap) = w9' at HN3 HO9 ⊢
      have HB := HN3
      have HO := HO9
      clear HN3 HO9
      have c0 : w9'.cell? ⟨b3, 0, none⟩ = some (.int .i64 E.r) := cell_blk HB.out.box 0
      have cf0 := free_blk HB.out.box 0
      have c1 : w9'.cell? ⟨b3, 1, none⟩ = some (.int .i64 E.d) := cell_blk HB.out.box 1
      have cf1 := free_blk HB.out.box 1
      have c2 : w9'.cell? ⟨b3, 2, none⟩ = some (.int .i64 E.b) := cell_blk HB.out.box 2
      have cf2 := free_blk HB.out.box 2
      have c3 : w9'.cell? ⟨b3, 3, none⟩ = some (.int .i64 E.l) := cell_blk HB.out.box 3
      have cf3 := free_blk HB.out.box 3
      have c4 : w9'.cell? ⟨b3, 4, none⟩ = some (.int .i64 E.m) := cell_blk HB.out.box 4
      have cf4 := free_blk HB.out.box 4
      have c5 : w9'.cell? ⟨b3, 5, none⟩ = some (.int .i64 E.n) := cell_blk HB.out.box 5
      have cf5 := free_blk HB.out.box 5
      have c6 : w9'.cell? ⟨b3, 6, none⟩ = some (.int .i64 E.e) := cell_blk HB.out.box 6
      have cf6 := free_blk HB.out.box 6
      have c7 : w9'.cell? ⟨b3, 7, none⟩ = some (.slice (some ⟨g, 0, none⟩) (D.s.length + 1) cap) := cell_blk HB.out.box 7
      have cf7 := free_blk HB.out.box 7
      have cl := blk_lt HB.out.box
      have r0 := cell_blk HB.out.res 0
      have rf0 := free_blk HB.out.res 0
      have r1 := cell_blk HB.out.res 1
      have rf1 := free_blk HB.out.res 1
      have r2 := cell_blk HB.out.res 2
      have rf2 := free_blk HB.out.res 2
      have r3 := cell_blk HB.out.res 3
      have rf3 := free_blk HB.out.res 3
      have r4 := cell_blk HB.out.res 4
      have rf4 := free_blk HB.out.res 4
      have r5 := cell_blk HB.out.res 5
      have rf5 := free_blk HB.out.res 5
      have r6 := cell_blk HB.out.res 6
      have rf6 := free_blk HB.out.res 6
      have r7 := cell_blk HB.out.res 7
      have rf7 := free_blk HB.out.res 7
      have rl := blk_lt HB.out.res
      go_wp2_with fail
      refine bodyPost_ret (v := cfgV E (.slice (some ⟨g, 0, none⟩) (D.s.length + 1) cap)) ?_ rfl ⟨⟨E, _, rfl, ?_, hl6⟩, ?_, ?_⟩
      · rw [results_one rfl]
        simp only [cfgV]
        go_simp
      · iterate 8 refine ownsRow_setCell_other ?_ (owns_ne_blk HO.out HB.out.res (by decide)) _
        exact HO.out
      · iterate 8 refine Cur.far8 ?_ hlp
        exact HB.out.cur
      · iterate 8 refine grown_set8 ?_ (Nat.le_refl _)
        exact HB.out.grw
    · go_simp
      refine (l1Below W _ p 5 (by omega) (by omega) HB.out.drew.cur).mono ?_
      rintro e w5' ⟨⟨mm, hmm, rfl⟩, hc, hg⟩
      have hn1 := HB.out.drew.next hc hg
      have ho1 := own_next8 (wr := w2.drew) HO.out hlp hg
      have hw1 : IntKind.i64.wrap ((mm : Int) - 2) = (mm : Int) - 2 := IntWalk.i64_in _ (by omega)
      clear hc hg
      refine hK.out _ _ trivial (fun hHeld => ?_)
      clear hK K
      (try simp only [List.getElem_toArray, List.getElem_cons_succ, List.getElem_cons_zero, Act.put, List.setIfInBounds_toArray, List.set_cons_zero, List.set_cons_succ])
      refine wpAnyH_take (i := 4) (oi := ?o35) (v := ?v35) ?hi35 ?hs35 ?hf35 ?hr35 ?hQ35 ?hy35 ?hS35 ?rest35
      case hi35 => rfl
      case hs35 => kernel_rfl
      case hf35 => kernel_rfl
      case hr35 => kernel_rfl
      case hQ35 => exact fun _ _ _ h => h
      case hS35 => assumption
      case hy35 =>
        refine Or.inl ⟨by kernel_rfl, ?_⟩
        intro w' hSw
        (try dsimp only at hSw)
        go_simp
        (try rfl)
      (try simp only [List.getElem_toArray, List.getElem_cons_succ, List.getElem_cons_zero, Act.put, List.setIfInBounds_toArray, List.set_cons_zero, List.set_cons_succ])
      refine wpAnyH_ready (rs := [1, 5]) (by kernel_rfl) (by simp) ?_
      refine AllReadyH.cons rfl (fun K hK => ?_) (AllReadyH.cons rfl (fun K hK => ?_) AllReadyH.nil)
      · have c7x : (w5').cell? ⟨b3, 7, none⟩ = some (.slice va D.s.length vc) := cell_blk (hn1).box 7
        go_simp
        refine hK.out _ _ trivial (fun hHeld => ?_)
        clear hK K
        (try simp only [List.getElem_toArray, List.getElem_cons_succ, List.getElem_cons_zero, Act.put, List.setIfInBounds_toArray, List.set_cons_zero, List.set_cons_succ])
        clear c7x
        refine wpAnyH_ready (rs := [5]) (by kernel_rfl) (by simp) ?_
        refine AllReadyH.cons rfl (fun K hK => ?_) AllReadyH.nil
        go_simp
        refine hK.out _ _ trivial (fun hHeld => ?_)
        clear hK K
        (try simp only [List.getElem_toArray, List.getElem_cons_succ, List.getElem_cons_zero, Act.put, List.setIfInBounds_toArray, List.set_cons_zero, List.set_cons_succ])
        refine wpAnyH_ready (rs := [6]) (by kernel_rfl) (by simp) ?_
        refine AllReadyH.cons rfl (fun K hK => ?_) AllReadyH.nil
        refine step_append_lies _ rfl (.tmp 58) (.tmp 62) 24 rfl w.heap.size 3 iI (.int .i64 0) 1 8 Tryz.underlying24 hi hz0 hz1 hz2 rfl (by decide) (.slice va D.s.length vc) D.s.length (intCells D.s) (by simp [Act.eval]) (ho1.alloc (.cells #[.int .i64 ((mm : Int) - 2)] 3)) ⟨w5'.heap.size, 0, none⟩ 1 1 [.int .i64 ((mm : Int) - 2)] (by simp [Act.eval]) rfl news_one (by intro y hy; simp at hy; subst hy; rfl) (by omega) (by unfold maxLen; omega) (by omega) (by have := (hn1.laid (.cells #[.int .i64 ((mm : Int) - 2)] 3)).grw.size; exact this) (w5'.heap.size + 1) (by simp) ?_
        intro g cap w8' hown8 hg8 _ hlt8
        have hn2 := RtB.app (hn1.laid (.cells #[.int .i64 ((mm : Int) - 2)] 3)) (ho1.alloc (.cells #[.int .i64 ((mm : Int) - 2)] 3)) hg8
        refine hK.out _ _ trivial (fun hHeld => ?_)
        clear hK K
        (try simp only [List.getElem_toArray, List.getElem_cons_succ, List.getElem_cons_zero, Act.put, List.setIfInBounds_toArray, List.set_cons_zero, List.set_cons_succ])
        refine wpAnyH_take (i := 7) (oi := ?o33) (v := ?v33) ?hi33 ?hs33 ?hf33 ?hr33 ?hQ33 ?hy33 ?hS33 ?rest33
        case hi33 => rfl
        case hs33 => kernel_rfl
        case hf33 => kernel_rfl
        case hr33 => kernel_rfl
        case hQ33 => exact fun _ _ _ h => h
        case hS33 => assumption
        case hy33 =>
          refine Or.inl ⟨by kernel_rfl, ?_⟩
          intro w' hSw
          (try dsimp only at hSw)
          go_simp
          (try rfl)
        (try simp only [List.getElem_toArray, List.getElem_cons_succ, List.getElem_cons_zero, Act.put, List.setIfInBounds_toArray, List.set_cons_zero, List.set_cons_succ])
        have c7s : w8'.cell? ⟨b3, 7, none⟩ = some (.slice va D.s.length vc) := cell_blk hn2.box 7
        have cf7s := free_blk hn2.box 7
        have cl7s := blk_lt hn2.box
        refine wpAnyH_ready (rs := [8]) (by kernel_rfl) (by simp) ?_
        refine AllReadyH.cons rfl (fun K hK => ?_) AllReadyH.nil
        go_simp
        refine hK.out _ _ trivial (fun hHeld => ?_)
        clear hK K
        (try simp only [List.getElem_toArray, List.getElem_cons_succ, List.getElem_cons_zero, Act.put, List.setIfInBounds_toArray, List.set_cons_zero, List.set_cons_succ])
        refine wpAnyH_done (by kernel_rfl) ?_ _
        refine NoPanic.normal ?_
        have hn3 : RtB W w (w8'.setCell ⟨b3, 7, none⟩ (.slice (some ⟨g, 0, none⟩) (D.s.length + 1) cap)) p b3 { D with s := D.s ++ [(mm : Int) - 2] } (.slice (some ⟨g, 0, none⟩) (D.s.length + 1) cap) := hn2.put rfl
        have hown9 := ownsRow_setCell_other (a := ⟨b3, 7, none⟩) hown8 (owns_ne_blk hown8 hn2.box (by decide)) (.slice (some ⟨g, 0, none⟩) (D.s.length + 1) cap)
        have hown10 := row9 hown9
        obtain ⟨E, hE⟩ : ∃ E : Cfg, E = { D with s := D.s ++ [(mm : Int) - 2] } := ⟨_, rfl⟩
        have hEs : E.s.length = D.s.length + 1 := by rw [hE]; simp
        rw [← hE] at hn3
        have hO10 : (w8'.setCell ⟨b3, 7, none⟩ (.slice (some ⟨g, 0, none⟩) (D.s.length + 1) cap)).ownsRow w.heap.size 3 1 (.slice (some ⟨g, 0, none⟩) (D.s.length + 1) cap) E.s.length (intCells E.s) := by rw [hE]; exact hown10
        have hl6 : E.s.length ≤ 6 := by omega
        have HN3 := Lib.hid hn3
        have HO9 := Lib.hid hO10
        clear c7s cf7s cl7s hn3 hown9 hown8 hg8 hlt8 hn2 hn1 ho1 hw1 hHeld HB HO hown10 hO10 hE hEs
        generalize w8'.setCell ⟨b3, 7, none⟩ (.slice (some ⟨g, 0, none⟩) (D.s.length + 1) cap) = w9' at HN3 HO9 ⊢
        have HB := HN3
        have HO := HO9
        clear HN3 HO9
        have c0 : w9'.cell? ⟨b3, 0, none⟩ = some (.int .i64 E.r) := cell_blk HB.out.box 0
        have cf0 := free_blk HB.out.box 0
        have c1 : w9'.cell? ⟨b3, 1, none⟩ = some (.int .i64 E.d) := cell_blk HB.out.box 1
        have cf1 := free_blk HB.out.box 1
        have c2 : w9'.cell? ⟨b3, 2, none⟩ = some (.int .i64 E.b) := cell_blk HB.out.box 2
        have cf2 := free_blk HB.out.box 2
        have c3 : w9'.cell? ⟨b3, 3, none⟩ = some (.int .i64 E.l) := cell_blk HB.out.box 3
        have cf3 := free_blk HB.out.box 3
        have c4 : w9'.cell? ⟨b3, 4, none⟩ = some (.int .i64 E.m) := cell_blk HB.out.box 4
        have cf4 := free_blk HB.out.box 4
        have c5 : w9'.cell? ⟨b3, 5, none⟩ = some (.int .i64 E.n) := cell_blk HB.out.box 5
        have cf5 := free_blk HB.out.box 5
        have c6 : w9'.cell? ⟨b3, 6, none⟩ = some (.int .i64 E.e) := cell_blk HB.out.box 6
        have cf6 := free_blk HB.out.box 6
        have c7 : w9'.cell? ⟨b3, 7, none⟩ = some (.slice (some ⟨g, 0, none⟩) (D.s.length + 1) cap) := cell_blk HB.out.box 7
        have cf7 := free_blk HB.out.box 7
        have cl := blk_lt HB.out.box
        have r0 := cell_blk HB.out.res 0
        have rf0 := free_blk HB.out.res 0
        have r1 := cell_blk HB.out.res 1
        have rf1 := free_blk HB.out.res 1
        have r2 := cell_blk HB.out.res 2
        have rf2 := free_blk HB.out.res 2
        have r3 := cell_blk HB.out.res 3
        have rf3 := free_blk HB.out.res 3
        have r4 := cell_blk HB.out.res 4
        have rf4 := free_blk HB.out.res 4
        have r5 := cell_blk HB.out.res 5
        have rf5 := free_blk HB.out.res 5
        have r6 := cell_blk HB.out.res 6
        have rf6 := free_blk HB.out.res 6
        have r7 := cell_blk HB.out.res 7
        have rf7 := free_blk HB.out.res 7
        have rl := blk_lt HB.out.res
        go_wp2_with fail
        refine bodyPost_ret (v := cfgV E (.slice (some ⟨g, 0, none⟩) (D.s.length + 1) cap)) ?_ rfl ⟨⟨E, _, rfl, ?_, hl6⟩, ?_, ?_⟩
        · rw [results_one rfl]
          simp only [cfgV]
          go_simp
        · iterate 8 refine ownsRow_setCell_other ?_ (owns_ne_blk HO.out HB.out.res (by decide)) _
          exact HO.out
        · iterate 8 refine Cur.far8 ?_ hlp
          exact HB.out.cur
        · iterate 8 refine grown_set8 ?_ (Nat.le_refl _)
          exact HB.out.grw
      · go_simp
        refine hK.out _ _ trivial (fun hHeld => ?_)
        clear hK K
        (try simp only [List.getElem_toArray, List.getElem_cons_succ, List.getElem_cons_zero, Act.put, List.setIfInBounds_toArray, List.set_cons_zero, List.set_cons_succ])
        refine wpAnyH_ready (rs := [1]) (by kernel_rfl) (by simp) ?_
        refine AllReadyH.cons rfl (fun K hK => ?_) AllReadyH.nil
        have c7x : (w5'.alloc (.cells #[.int .i64 ((mm : Int) - 2)] 3)).cell? ⟨b3, 7, none⟩ = some (.slice va D.s.length vc) := cell_blk (hn1.laid (.cells #[.int .i64 ((mm : Int) - 2)] 3)).box 7
        go_simp
        refine hK.out _ _ trivial (fun hHeld => ?_)
        clear hK K
        (try simp only [List.getElem_toArray, List.getElem_cons_succ, List.getElem_cons_zero, Act.put, List.setIfInBounds_toArray, List.set_cons_zero, List.set_cons_succ])
        clear c7x
        refine wpAnyH_ready (rs := [6]) (by kernel_rfl) (by simp) ?_
        refine AllReadyH.cons rfl (fun K hK => ?_) AllReadyH.nil
        refine step_append_lies _ rfl (.tmp 58) (.tmp 62) 24 rfl w.heap.size 3 iI (.int .i64 0) 1 8 Tryz.underlying24 hi hz0 hz1 hz2 rfl (by decide) (.slice va D.s.length vc) D.s.length (intCells D.s) (by simp [Act.eval]) (ho1.alloc (.cells #[.int .i64 ((mm : Int) - 2)] 3)) ⟨w5'.heap.size, 0, none⟩ 1 1 [.int .i64 ((mm : Int) - 2)] (by simp [Act.eval]) rfl news_one (by intro y hy; simp at hy; subst hy; rfl) (by omega) (by unfold maxLen; omega) (by omega) (by have := (hn1.laid (.cells #[.int .i64 ((mm : Int) - 2)] 3)).grw.size; exact this) (w5'.heap.size + 1) (by simp) ?_
        intro g cap w8' hown8 hg8 _ hlt8
        have hn2 := RtB.app (hn1.laid (.cells #[.int .i64 ((mm : Int) - 2)] 3)) (ho1.alloc (.cells #[.int .i64 ((mm : Int) - 2)] 3)) hg8
        refine hK.out _ _ trivial (fun hHeld => ?_)
        clear hK K
        (try simp only [List.getElem_toArray, List.getElem_cons_succ, List.getElem_cons_zero, Act.put, List.setIfInBounds_toArray, List.set_cons_zero, List.set_cons_succ])
        refine wpAnyH_take (i := 7) (oi := ?o34) (v := ?v34) ?hi34 ?hs34 ?hf34 ?hr34 ?hQ34 ?hy34 ?hS34 ?rest34
        case hi34 => rfl
        case hs34 => kernel_rfl
        case hf34 => kernel_rfl
        case hr34 => kernel_rfl
        case hQ34 => exact fun _ _ _ h => h
        case hS34 => assumption
        case hy34 =>
          refine Or.inl ⟨by kernel_rfl, ?_⟩
          intro w' hSw
          (try dsimp only at hSw)
          go_simp
          (try rfl)
        (try simp only [List.getElem_toArray, List.getElem_cons_succ, List.getElem_cons_zero, Act.put, List.setIfInBounds_toArray, List.set_cons_zero, List.set_cons_succ])
        have c7s : w8'.cell? ⟨b3, 7, none⟩ = some (.slice va D.s.length vc) := cell_blk hn2.box 7
        have cf7s := free_blk hn2.box 7
        have cl7s := blk_lt hn2.box
        refine wpAnyH_ready (rs := [8]) (by kernel_rfl) (by simp) ?_
        refine AllReadyH.cons rfl (fun K hK => ?_) AllReadyH.nil
        go_simp
        refine hK.out _ _ trivial (fun hHeld => ?_)
        clear hK K
        (try simp only [List.getElem_toArray, List.getElem_cons_succ, List.getElem_cons_zero, Act.put, List.setIfInBounds_toArray, List.set_cons_zero, List.set_cons_succ])
        refine wpAnyH_done (by kernel_rfl) ?_ _
        refine NoPanic.normal ?_
        have hn3 : RtB W w (w8'.setCell ⟨b3, 7, none⟩ (.slice (some ⟨g, 0, none⟩) (D.s.length + 1) cap)) p b3 { D with s := D.s ++ [(mm : Int) - 2] } (.slice (some ⟨g, 0, none⟩) (D.s.length + 1) cap) := hn2.put rfl
        have hown9 := ownsRow_setCell_other (a := ⟨b3, 7, none⟩) hown8 (owns_ne_blk hown8 hn2.box (by decide)) (.slice (some ⟨g, 0, none⟩) (D.s.length + 1) cap)
        have hown10 := row9 hown9
        obtain ⟨E, hE⟩ : ∃ E : Cfg, E = { D with s := D.s ++ [(mm : Int) - 2] } := ⟨_, rfl⟩
        have hEs : E.s.length = D.s.length + 1 := by rw [hE]; simp
        rw [← hE] at hn3
        have hO10 : (w8'.setCell ⟨b3, 7, none⟩ (.slice (some ⟨g, 0, none⟩) (D.s.length + 1) cap)).ownsRow w.heap.size 3 1 (.slice (some ⟨g, 0, none⟩) (D.s.length + 1) cap) E.s.length (intCells E.s) := by rw [hE]; exact hown10
        have hl6 : E.s.length ≤ 6 := by omega
        have HN3 := Lib.hid hn3
        have HO9 := Lib.hid hO10
        clear c7s cf7s cl7s hn3 hown9 hown8 hg8 hlt8 hn2 hn1 ho1 hw1 hHeld HB HO hown10 hO10 hE hEs
        generalize w8'.setCell ⟨b3, 7, none⟩ (.slice (some ⟨g, 0, none⟩) (D.s.length + 1) cap) = w9' at HN3 HO9 ⊢
        have HB := HN3
        have HO := HO9
        clear HN3 HO9
        have c0 : w9'.cell? ⟨b3, 0, none⟩ = some (.int .i64 E.r) := cell_blk HB.out.box 0
        have cf0 := free_blk HB.out.box 0
        have c1 : w9'.cell? ⟨b3, 1, none⟩ = some (.int .i64 E.d) := cell_blk HB.out.box 1
        have cf1 := free_blk HB.out.box 1
        have c2 : w9'.cell? ⟨b3, 2, none⟩ = some (.int .i64 E.b) := cell_blk HB.out.box 2
        have cf2 := free_blk HB.out.box 2
        have c3 : w9'.cell? ⟨b3, 3, none⟩ = some (.int .i64 E.l) := cell_blk HB.out.box 3
        have cf3 := free_blk HB.out.box 3
        have c4 : w9'.cell? ⟨b3, 4, none⟩ = some (.int .i64 E.m) := cell_blk HB.out.box 4
        have cf4 := free_blk HB.out.box 4
        have c5 : w9'.cell? ⟨b3, 5, none⟩ = some (.int .i64 E.n) := cell_blk HB.out.box 5
        have cf5 := free_blk HB.out.box 5
        have c6 : w9'.cell? ⟨b3, 6, none⟩ = some (.int .i64 E.e) := cell_blk HB.out.box 6
        have cf6 := free_blk HB.out.box 6
        have c7 : w9'.cell? ⟨b3, 7, none⟩ = some (.slice (some ⟨g, 0, none⟩) (D.s.length + 1) cap) := cell_blk HB.out.box 7
        have cf7 := free_blk HB.out.box 7
        have cl := blk_lt HB.out.box
        have r0 := cell_blk HB.out.res 0
        have rf0 := free_blk HB.out.res 0
        have r1 := cell_blk HB.out.res 1
        have rf1 := free_blk HB.out.res 1
        have r2 := cell_blk HB.out.res 2
        have rf2 := free_blk HB.out.res 2
        have r3 := cell_blk HB.out.res 3
        have rf3 := free_blk HB.out.res 3
        have r4 := cell_blk HB.out.res 4
        have rf4 := free_blk HB.out.res 4
        have r5 := cell_blk HB.out.res 5
        have rf5 := free_blk HB.out.res 5
        have r6 := cell_blk HB.out.res 6
        have rf6 := free_blk HB.out.res 6
        have r7 := cell_blk HB.out.res 7
        have rf7 := free_blk HB.out.res 7
        have rl := blk_lt HB.out.res
        go_wp2_with fail
        refine bodyPost_ret (v := cfgV E (.slice (some ⟨g, 0, none⟩) (D.s.length + 1) cap)) ?_ rfl ⟨⟨E, _, rfl, ?_, hl6⟩, ?_, ?_⟩
        · rw [results_one rfl]
          simp only [cfgV]
          go_simp
        · iterate 8 refine ownsRow_setCell_other ?_ (owns_ne_blk HO.out HB.out.res (by decide)) _
          exact HO.out
        · iterate 8 refine Cur.far8 ?_ hlp
          exact HB.out.cur
        · iterate 8 refine grown_set8 ?_ (Nat.le_refl _)
          exact HB.out.grw
  · have n0 : ((m : Int) == 0) = false := by rw [beq_eq_false_iff_ne]; omega
    have n1 : ((m : Int) == 1) = false := by rw [beq_eq_false_iff_ne]; omega
    have n2 : ((m : Int) == 2) = false := by rw [beq_eq_false_iff_ne]; omega
    have n3 : ((m : Int) == 3) = false := by rw [beq_eq_false_iff_ne]; omega
    have n4 : ((m : Int) == 4) = false := by rw [beq_eq_false_iff_ne]; omega
    have n5 : ((m : Int) == 5) = false := by rw [beq_eq_false_iff_ne]; omega
    have n6 : ((m : Int) == 6) = false := by rw [beq_eq_false_iff_ne]; omega
    have n7 : ((m : Int) == 7) = false := by rw [beq_eq_false_iff_ne]; omega
    have hl6 : D.s.length ≤ 6 := by omega
    have c0 : w2.cell? ⟨b3, 0, none⟩ = some (.int .i64 D.r) := cell_blk HB.out.box 0
    have cf0 := free_blk HB.out.box 0
    have c1 : w2.cell? ⟨b3, 1, none⟩ = some (.int .i64 D.d) := cell_blk HB.out.box 1
    have cf1 := free_blk HB.out.box 1
    have c2 : w2.cell? ⟨b3, 2, none⟩ = some (.int .i64 D.b) := cell_blk HB.out.box 2
    have cf2 := free_blk HB.out.box 2
    have c3 : w2.cell? ⟨b3, 3, none⟩ = some (.int .i64 D.l) := cell_blk HB.out.box 3
    have cf3 := free_blk HB.out.box 3
    have c4 : w2.cell? ⟨b3, 4, none⟩ = some (.int .i64 D.m) := cell_blk HB.out.box 4
    have cf4 := free_blk HB.out.box 4
    have c5 : w2.cell? ⟨b3, 5, none⟩ = some (.int .i64 D.n) := cell_blk HB.out.box 5
    have cf5 := free_blk HB.out.box 5
    have c6 : w2.cell? ⟨b3, 6, none⟩ = some (.int .i64 D.e) := cell_blk HB.out.box 6
    have cf6 := free_blk HB.out.box 6
    have c7 : w2.cell? ⟨b3, 7, none⟩ = some (.slice va D.s.length vc) := cell_blk HB.out.box 7
    have cf7 := free_blk HB.out.box 7
    have cl := blk_lt HB.out.box
    have r0 := cell_blk HB.out.res 0
    have rf0 := free_blk HB.out.res 0
    have r1 := cell_blk HB.out.res 1
    have rf1 := free_blk HB.out.res 1
    have r2 := cell_blk HB.out.res 2
    have rf2 := free_blk HB.out.res 2
    have r3 := cell_blk HB.out.res 3
    have rf3 := free_blk HB.out.res 3
    have r4 := cell_blk HB.out.res 4
    have rf4 := free_blk HB.out.res 4
    have r5 := cell_blk HB.out.res 5
    have rf5 := free_blk HB.out.res 5
    have r6 := cell_blk HB.out.res 6
    have rf6 := free_blk HB.out.res 6
    have r7 := cell_blk HB.out.res 7
    have rf7 := free_blk HB.out.res 7
    have rl := blk_lt HB.out.res
    go_wp2_with fail
    refine bodyPost_ret (v := cfgV D (.slice va D.s.length vc)) ?_ rfl ⟨⟨D, _, rfl, ?_, hl6⟩, ?_, ?_⟩
    · rw [results_one rfl]
      simp only [cfgV]
      go_simp
    · iterate 8 refine ownsRow_setCell_other ?_ (owns_ne_blk HO.out HB.out.res (by decide)) _
      exact HO.out
    · iterate 8 refine Cur.far8 ?_ hlp
      exact HB.out.cur
    · iterate 8 refine grown_set8 ?_ (Nat.le_refl _)
      exact HB.out.grw
end Go.Proofs.YtnnbhgnllbjmeaaGreatDoor
