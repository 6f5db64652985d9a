/-
  What an argument of bytes gives the walks.
-/
import Derived.Test.YtlhfnmcjolonfaaDoorLaid
import Derived.Test.YtlhfnmcjolonfaaDoorLawD
import Derived.Carry
import Derived.SizedLaws
namespace Go.Proofs.YtlhfnmcjolonfaaDoor
open Go.ChangeShapes Go.WideShapes Go.ChangeAt Go.RowKit

theorem laidOut : laidOutB Tryd.prog = true := by kernel_rfl
theorem cellsU8 : Tryd.prog.cellsOf 5 = 1 := by kernel_rfl
theorem bytesU8 : Tryd.prog.bytesOf 5 = 1 := by kernel_rfl

theorem bytes_read {H : Type} {enc : TypeId × Value → H} {W : World} {sp : Nat → Bool} {a : Option Addr} {n c : Nat} {d : DataW H} {p : List MemPlace}
    (h : DataW.Trod enc Tryd.prog W 0 sp true 22 (.slice a n c) d p) (hr : ∀ l s, d = .slice l s → l.length ≤ 140737488355328) (hsp : ∀ b, sp b = true := by intro _; rfl) : Bytes W (.slice a n c) n := by
  obtain ⟨fuel, hf⟩ := h
  rcases open_ints Tryd.underlying22 Tryd.underlying5 cellsU8 hf with ⟨hcs, hx⟩ | ⟨a', len', cap', zs, hcs, _, hl, hm, hz, hx, hcell, hwz⟩
  · simp [Value.cells] at hcs
    obtain ⟨rfl, rfl, rfl⟩ := hcs
    exact Or.inl ⟨0, rfl, rfl⟩
  · simp [Value.cells] at hcs
    obtain ⟨rfl, rfl, rfl⟩ := hcs
    simp only [Prod.mk.injEq] at hx
    obtain ⟨rfl, rfl⟩ := hx
    simp only [hsp, if_true] at hz
    have hn := hr _ _ rfl
    simp only [lits, List.length_map, List.length_take] at hn
    by_cases h0 : n = 0
    · subst h0
      exact Or.inr (Or.inl ⟨a', c, rfl, rfl⟩)
    · obtain ⟨b, off, spot⟩ := a'
      have hspot : spot = none := by simpa [Addr.add] using World.cell?_spot (hcell 0 (by omega))
      subst hspot
      refine Or.inr (Or.inr ⟨b, off, c, rfl, by omega, fun j hj => ?_⟩)
      have hc := hcell j (by omega)
      rw [Lib.add_plain] at hc
      have hw := bounds_u8 (hwz (zs.getD j 0) (by
        rw [List.getD_eq_getElem?_getD, List.getElem?_eq_getElem (by omega)]
        simp))
      exact ⟨World.block_lt_of_cell? W _ hc, zs.getD j 0, hw.1, hw.2, hc⟩
end Go.Proofs.YtlhfnmcjolonfaaDoor
