/-
  What is drawn for the law on grids.
  What the program answers for grids: the cuts.
-/
import Derived.Test.YtgknkjiifcnkpaaDrB
import Derived.Test.YtgknkjiifcnkpaaLawJ11
import Derived.Test.YtgknkjiifcnkpaaI10B
import Derived.Test.YtgknkjiifcnkpaaI11A
import Derived.Test.YtgknkjiifcnkpaaLawA11
import Derived.Test.YtgknkjiifcnkpaaPk7
namespace Go.Proofs.Ytgknkjiifcnkpaa
open Go.RowKit

theorem results_cell_tmpG {fn : Func} {t p : Tmp} {ty : TypeId} (h : fn.results = #[.cell p ty, .tmp t]) (tmps : Array Value) (P : Program) (w : World) :
    (results fn tmps).run P w =
      ((asAddr (tmps.getD p undef)).run P w).andThen fun a w₁ => ((loadVar ty a).run P w₁).andThen fun v w₂ => .ok (.tuple #[v, tmps.getD t undef]) w₂ := by
  simp only [results, h]
  simp [Sem.run_bind, Result.andThen]
set_option maxRecDepth 100000 in
theorem drawGrid : DrawGrid := by
  intro w v n hb
  have XR := Lib.hid (alloc_blk w #[.slice none 0 0, .string ⟨#[]⟩, .slice none 0 0, .slice none 0 0] 34)
  have BA := Lib.hid (bl_al w (.cells #[.slice none 0 0, .string ⟨#[]⟩, .slice none 0 0, .slice none 0 0] 34))
  have HB := Lib.hid (hb.mono BA.out)
  go_enter Try.func20, Try.ntmps20
  go_wp2_with fail
  generalize w.alloc (.cells #[.slice none 0 0, .string ⟨#[]⟩, .slice none 0 0, .slice none 0 0] 34) = wa at XR HB BA ⊢
  refine (l1New wa v n HB.out).mono ?_
  rintro e w1 ⟨rfl, hc1, _⟩
  have hp := hc1.lt
  go_wp2_with fail
  refine (l9Bent wa w1 _ hc1).mono ?_
  rintro e w2 ⟨T, vs, u1, u2, u3, rfl, hown, hsm, hc2, _⟩
  obtain ⟨a1, c1, rfl⟩ := owns_form hown.1
  obtain ⟨a2, c2, rfl⟩ := owns_form hown.2.1
  obtain ⟨a3, c3, rfl⟩ := owns_form hown.2.2.2.1
  have HO2 := Lib.hid hown
  have HSM := Lib.hid hsm
  have HC2 := Lib.hid hc2
  have hp2 := hc2.lt
  clear hc1 hc2 hown hsm HB
  go_wp2_with fail
  refine (l1PickInt wa _ _ w2.heap.size 6 (by omega) (by omega) (by omega) ?_ (HC2.out.alloc _)).mono ?_
  · refine intList ?_ ?_
    · rfl
    · decide
  rintro e w3 ⟨⟨z, z0, z1, rfl⟩, hc3, hg3⟩
  have HO := Lib.hid ((HO2.out.below (bl_al w2 (.cells #[.int .i64 2, .int .i64 3, .int .i64 4, .int .i64 8, .int .i64 1, .int .i64 9] 3))).draw (HC2.out.alloc _) hg3)
  have hB3 := cur_below hc3
  have XR2 := Lib.hid ((hB3.block _ (blk_lt XR.out)).trans XR.out)
  have HBB := Lib.hid (bt BA.out hB3)
  clear hc3 hg3 hB3 HO2 HC2 XR BA hp hp2
  have r0 := cell_blk XR2.out 0
  have rf0 := free_blk XR2.out 0
  have r1 := cell_blk XR2.out 1
  have rf1 := free_blk XR2.out 1
  have r2 := cell_blk XR2.out 2
  have rf2 := free_blk XR2.out 2
  have r3 := cell_blk XR2.out 3
  have rf3 := free_blk XR2.out 3
  have rl := blk_lt XR2.out
  have N0 := Lib.hid (HO.out.ne XR2.out (by decide) (by decide) (by decide))
  go_wp2_with fail
  refine bodyPost_ret (v := .tuple #[.agg #[.slice a1 T.ns.length c1, .string ⟨T.y.toArray⟩, .slice a2 T.rs.length c2, .slice a3 T.ys.length c3], .int .i64 z]) ?_ rfl ⟨⟨T, _, _, _, z, rfl, ((((HO.out.setN N0.out 0 _).setN N0.out 1 _).setN N0.out 2 _).setN N0.out 3 _).rowS HSM.out, HSM.out⟩, ?_⟩
  · rw [results_cell_tmpG rfl]
    go_simp
  · exact (((HBB.out.setCell (p := ⟨w.heap.size, 0, none⟩) (Nat.le_refl _) _).setCell (p := ⟨w.heap.size, 1, none⟩) (Nat.le_refl _) _).setCell (p := ⟨w.heap.size, 2, none⟩) (Nat.le_refl _) _).setCell (p := ⟨w.heap.size, 3, none⟩) (Nat.le_refl _) _
end Go.Proofs.Ytgknkjiifcnkpaa
namespace Go.Proofs.Ytgknkjiifcnkpaa
theorem implCuts : ImplCuts := fun zs b u w h hle => implCutsOf zs b u w h hle
end Go.Proofs.Ytgknkjiifcnkpaa
