/-
  What is drawn for the law on signs.
-/
import Derived.Test.YtnnbhgnllbjmeaaCfgW
namespace Go.Proofs.Ytnnbhgnllbjmeaa
open Go.RowKit

theorem results_cell_tmp {fn : Func} {t p : Tmp} {ty : TypeId} (h : fn.results = #[.cell p ty, .tmp t]) (tmps : Array Value) (P : Program) (w : World) :
    (results fn tmps).run P w =
      ((asAddr (tmps.getD p undef)).run P w).andThen fun a w₁ => ((loadVar ty a).run P w₁).andThen fun v w₂ => .ok (.tuple #[v, tmps.getD t undef]) w₂ := by
  simp only [results, h]
  simp [Sem.run_bind, Result.andThen]
/-- What is drawn: settings whose signs can be read, and a number. -/
def DsOut (e : Ending) (w' : World) : Prop := ∃ C u f, e = .returned (.tuple #[cfgV C u, .int .i64 f]) ∧ IntRow w' u C.s ∧ C.s.length ≤ 6 ∧ -9223372036854775808 ≤ f ∧ f ≤ 9223372036854775807
set_option maxRecDepth 100000 in
theorem drawSignFor (w : World) (v : Value) (n : Nat) (hb : Bytes w v n) :
    Calls Try.prog 9 #[v] w fun e w' => DsOut e w' ∧ Below w.heap.size w w' := by
  have XR := Lib.hid (alloc_blk w #[.int .i64 0, .int .i64 0, .int .i64 0, .int .i64 0, .int .i64 0, .int .i64 0, .int .i64 0, .slice none 0 0] 26)
  have HB := Lib.hid (hb.next (below_al w (.cells #[.int .i64 0, .int .i64 0, .int .i64 0, .int .i64 0, .int .i64 0, .int .i64 0, .int .i64 0, .slice none 0 0] 26)))
  have BA := Lib.hid (below_al w (.cells #[.int .i64 0, .int .i64 0, .int .i64 0, .int .i64 0, .int .i64 0, .int .i64 0, .int .i64 0, .slice none 0 0] 26))
  go_enter Try.func9, Try.ntmps9
  go_wp2_with fail
  generalize w.alloc (.cells #[.int .i64 0, .int .i64 0, .int .i64 0, .int .i64 0, .int .i64 0, .int .i64 0, .int .i64 0, .slice none 0 0] 26) = wa at XR HB BA ⊢
  refine (l1New wa v n HB.out).mono ?_
  rintro e w1 ⟨rfl, hc1, _⟩
  have hp := hc1.lt
  go_wp2_with fail
  refine (l8Bent wa w1 _ hc1).mono ?_
  rintro e w2 ⟨⟨C, u, rfl, ho, hl⟩, hc2, _⟩
  obtain ⟨a, c, rfl⟩ := ownsI_form ho
  have HO2 := Lib.hid ho
  have HC2 := Lib.hid hc2
  have hp2 := hc2.lt
  clear hc1 hc2 ho HB
  simp only [cfgV]
  go_wp2_with fail
  refine (l1PickInt wa _ _ w2.heap.size 7 (by omega) (by omega) (by omega) ?_ (HC2.out.alloc _)).mono ?_
  · refine intList ?_ ?_
    · rfl
    · decide
  rintro e w3 ⟨⟨z, z0, z1, rfl⟩, hc3, hg3⟩
  have HO := Lib.hid (own_next8 (HO2.out.alloc (.cells #[.int .i64 0, .int .i64 1, .int .i64 2, .int .i64 3, .int .i64 4, .int .i64 (-1), .int .i64 9223372036854775807] 3)) hp hg3)
  have hB3 := cur_below hc3
  have XR2 := Lib.hid ((hB3.block _ (blk_lt XR.out)).trans XR.out)
  have HBB := Lib.hid (BA.out.trans (hB3.mono BA.out.size))
  clear hc3 hg3 hB3 HO2 HC2 XR BA hp hp2
  have r0 := cell_blk XR2.out 0
  have rf0 := free_blk XR2.out 0
  have r1 := cell_blk XR2.out 1
  have rf1 := free_blk XR2.out 1
  have r2 := cell_blk XR2.out 2
  have rf2 := free_blk XR2.out 2
  have r3 := cell_blk XR2.out 3
  have rf3 := free_blk XR2.out 3
  have r4 := cell_blk XR2.out 4
  have rf4 := free_blk XR2.out 4
  have r5 := cell_blk XR2.out 5
  have rf5 := free_blk XR2.out 5
  have r6 := cell_blk XR2.out 6
  have rf6 := free_blk XR2.out 6
  have r7 := cell_blk XR2.out 7
  have rf7 := free_blk XR2.out 7
  have rl := blk_lt XR2.out
  go_wp2_with fail
  refine bodyPost_ret (v := .tuple #[cfgV C (.slice a C.s.length c), .int .i64 z]) ?_ rfl ⟨⟨C, _, z, rfl, intRow_of_owns (base := w1.heap.size) (T := 3) ?_ (by omega), hl, z0, z1⟩, ?_⟩
  · rw [results_cell_tmp rfl]
    simp only [cfgV]
    go_simp
  · iterate 8 refine ownsRow_setCell_other ?_ (owns_ne_blk HO.out XR2.out (by decide)) _
    exact HO.out
  · iterate 8 refine below_set8 ?_ (Nat.le_refl _)
    exact HBB.out
end Go.Proofs.Ytnnbhgnllbjmeaa
