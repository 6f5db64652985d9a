/-
  What the program answers for sorted numbers and cuts: its contracts.
-/
import Derived.Test.YtekdlkakcclejaaI10B
import Derived.Test.YtekdlkakcclejaaI10C
import Derived.Test.YtekdlkakcclejaaLawL10
namespace Go.Proofs.Ytekdlkakcclejaa
open Go.RowKit

set_option maxRecDepth 100000 in
theorem implSort : ImplSort := fun zs u w h hle => by
  obtain ⟨a, c, rfl, _⟩ := intRow_form h
  have h0 := Lib.hid h
  clear h
  go_enter Try.func11, Try.ntmps11
  go_wp2_with fail
  refine (implSorted zs _ _ h0.out hle).mono ?_
  rintro e w1 ⟨⟨g, c1, rfl, ho⟩, B1⟩
  have HO := Lib.hid ho
  clear ho
  go_wp2_with fail
  go_ret
  refine ⟨⟨_, rfl, ?_⟩, B1⟩
  rw [sortZ_len]
  exact HO.out
set_option maxRecDepth 100000 in
theorem implDist : ImplDist := fun zs u w h hle => by
  obtain ⟨a, c, rfl, _⟩ := intRow_form h
  have h0 := Lib.hid h
  clear h
  have HDD : Hid (distZ (sortZ zs) = distZ zs) := Lib.hid (distZ_uniq (distZ_srt _) (fun x => (distZ_mem _ x).trans (sortZ_perm zs).mem_iff))
  go_enter Try.func12, Try.ntmps12
  go_wp2_with fail
  refine (implSorted zs _ _ h0.out hle).mono ?_
  rintro e w1 ⟨⟨g, c1, rfl, ho⟩, B1⟩
  have HO := Lib.hid ho
  have HB := Lib.hid B1
  clear ho B1
  go_wp2_with fail
  refine (libCompact HO.out hle (sortZ_srt zs)).mono ?_
  rintro e w2 ⟨⟨v2, rfl, ho2⟩, B2⟩
  rw [HDD.out] at ho2
  have HO2 := Lib.hid ho2
  clear ho2
  go_wp2_with fail
  go_ret
  exact ⟨⟨_, rfl, HO2.out⟩, HB.out.trans B2⟩
theorem implCuts : ImplCuts := fun zs b u w h hle => implCutsOf zs b u w h hle
theorem implCutsOk : ImplCutsOk := fun zs u w h hle => implCutsOk9 zs u w h hle
end Go.Proofs.Ytekdlkakcclejaa
