/-
  What is drawn for the law on tables' texts.
  What the program answers for tables that are small enough: the forms that the law on tables' texts asks.
-/
import Derived.Test.YticeagjonfifbaaGreatDoorDrB
import Derived.Test.YticeagjonfifbaaGreatDoorLawU9
import Derived.Test.YticeagjonfifbaaGreatDoorPk15
import Derived.Test.YticeagjonfifbaaGreatDoorPk12
import Derived.Test.YticeagjonfifbaaGreatDoorCsvR
import Derived.Test.YticeagjonfifbaaGreatDoorPk13
import Derived.Test.YticeagjonfifbaaGreatDoorPk7
import Derived.Test.YticeagjonfifbaaGreatDoorPk14
import Derived.Test.YticeagjonfifbaaGreatDoorPk16
namespace Go.Proofs.YticeagjonfifbaaGreatDoor
open Go.RowKit

set_option maxRecDepth 100000 in
theorem drawTabU : DrawTabU := by
  intro w v n hb
  have XR := Lib.hid (alloc_blk w #[.slice none 0 0, .string ⟨#[]⟩, .slice none 0 0, .slice none 0 0] 28)
  have BA := Lib.hid (bl_al w (.cells #[.slice none 0 0, .string ⟨#[]⟩, .slice none 0 0, .slice none 0 0] 28))
  have HB := Lib.hid (hb.mono BA.out)
  go_enter Tryz.func7, Tryz.ntmps7
  go_wp2_with fail
  generalize w.alloc (.cells #[.slice none 0 0, .string ⟨#[]⟩, .slice none 0 0, .slice none 0 0] 28) = wa at XR HB BA ⊢
  refine (l1New wa v n HB.out).mono ?_
  rintro e w1 ⟨rfl, hc1, _⟩
  have hp := hc1.lt
  go_wp2_with fail
  refine (l9Bent wa w1 _ hc1).mono ?_
  rintro e w2 ⟨T, vs, u1, u2, u3, rfl, hown, hsm, hc2, _⟩
  obtain ⟨a1, c1, rfl⟩ := owns_form hown.1
  obtain ⟨a2, c2, rfl⟩ := owns_form hown.2.1
  obtain ⟨a3, c3, rfl⟩ := owns_form hown.2.2.2.1
  have HO := Lib.hid hown
  have HSM := Lib.hid hsm
  have hB3 := cur_below hc2
  have XR2 := Lib.hid ((hB3.block _ (blk_lt XR.out)).trans XR.out)
  have HBB := Lib.hid (bt BA.out hB3)
  clear hc1 hc2 hown hsm hB3 XR BA hp HB
  have r0 := cell_blk XR2.out 0
  have rf0 := free_blk XR2.out 0
  have r1 := cell_blk XR2.out 1
  have rf1 := free_blk XR2.out 1
  have r2 := cell_blk XR2.out 2
  have rf2 := free_blk XR2.out 2
  have r3 := cell_blk XR2.out 3
  have rf3 := free_blk XR2.out 3
  have rl := blk_lt XR2.out
  have N0 := Lib.hid (HO.out.ne XR2.out (by decide) (by decide) (by decide))
  go_wp2_with fail
  refine bodyPost_ret (v := .agg #[.slice a1 T.ns.length c1, .string ⟨T.y.toArray⟩, .slice a2 T.rs.length c2, .slice a3 T.ys.length c3]) ?_ rfl ⟨⟨T, _, _, _, rfl, ((((HO.out.setN N0.out 0 _).setN N0.out 1 _).setN N0.out 2 _).setN N0.out 3 _).rowS HSM.out, HSM.out⟩, ?_⟩
  · rw [results_oneD rfl]
    go_simp
  · exact (((HBB.out.setCell (p := ⟨w.heap.size, 0, none⟩) (Nat.le_refl _) _).setCell (p := ⟨w.heap.size, 1, none⟩) (Nat.le_refl _) _).setCell (p := ⟨w.heap.size, 2, none⟩) (Nat.le_refl _) _).setCell (p := ⟨w.heap.size, 3, none⟩) (Nat.le_refl _) _
end Go.Proofs.YticeagjonfifbaaGreatDoor
namespace Go.Proofs.YticeagjonfifbaaGreatDoor
open Go.RowKit

theorem implOkU9 : ImplOkU := fun T u1 u2 u3 w h hF => implTabOk9 T u1 u2 u3 w h hF.1 hF.2.2.2.2.1 hF.2.2.2.2.2
theorem implSameU9 : ImplSameU := fun A B u1 u2 u3 v1 v2 v3 w ha hb _ _ => implSameT A B u1 u2 u3 v1 v2 v3 w ha hb
theorem implTextU9 (W : World) (m : Int) (hm : W.cell? ⟨4, 0, none⟩ = some (.int .i64 m)) (hL : Lib.TabIs Tryz.prog W "internal/strconv.uint64pow10" .u64 Lib.pow10Tab ∧ 1 < W.heap.size) : ImplTextU W := fun w hB T u1 u2 u3 h hF => implTabText9 W m hm hL w hB T u1 u2 u3 h hF.1 hF.2.2.2.2.2 hF.2.2.2.2.1
end Go.Proofs.YticeagjonfifbaaGreatDoor
