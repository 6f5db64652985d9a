/-
  What an argument of numbers gives the walks.
-/
import Derived.Test.YtekdlkakcclejaaTabS
import Derived.Test.YtekdlkakcclejaaArgsB
import Derived.ChangeSlices
import Derived.ChangeSame
import Derived.Deep.Fields
namespace Go.Proofs.Ytekdlkakcclejaa
open Go.ChangeShapes Go.WideShapes Go.ChangeAt Go.RowKit Go.Deep

theorem cellsIntI : Try.prog.cellsOf 3 = 1 := by kernel_rfl
theorem addr_addI (b off j : Nat) : ((⟨b, off, none⟩ : Addr).add j) = ⟨b, off + j, none⟩ := by unfold Addr.add; split <;> simp_all
theorem ints_trodI {H : Type} {enc : TypeId × Value → H} {W : World} {sp : Nat → Bool} {base fuel : Nat} {held : Bool} {v : Value} {x : DataW H × List MemPlace}
    (h : DataW.trod enc Try.prog W base sp held fuel 24 [v] = some x) (hsp : ∀ b, sp b = true) : ∃ zs : List Int, IntRow W v zs := by
  rcases open_ints Try.underlying24 Try.underlying3 cellsIntI h with ⟨hcs, hx⟩ | ⟨a', len', cap', zs, hcs, _, hl, hm, hz, hx, hcell, hwz⟩
  · obtain rfl : v = .slice none 0 0 := by simpa using hcs
    exact ⟨[], Or.inl ⟨rfl, _, _, rfl⟩⟩
  · obtain rfl : v = .slice (some a') len' cap' := by simpa using hcs
    simp only [hsp, if_true] at hz
    unfold maxLen at hm
    by_cases h0 : len' = 0
    · subst h0
      exact ⟨[], Or.inl ⟨rfl, _, _, rfl⟩⟩
    · obtain ⟨b, off, spot⟩ := a'
      have hspot : spot = none := by simpa [Addr.add] using World.cell?_spot (hcell 0 (by omega))
      subst hspot
      have hlen : (zs.take len').length = len' := by simp; omega
      refine ⟨zs.take len', Or.inr ⟨b, off, cap', by rw [hlen], by omega, by omega, fun j p hj => ?_⟩⟩
      have hjn : j < len' := by
        have := (List.getElem?_eq_some_iff.1 hj).1
        omega
      have hc := hcell j (by omega)
      rw [addr_addI] at hc
      rw [hc]
      rw [List.getElem?_take, if_pos hjn, List.getElem?_eq_getElem (by omega)] at hj
      obtain rfl := Option.some.inj hj
      rw [List.getD_eq_getElem?_getD, List.getElem?_eq_getElem (by omega)]
      rfl
theorem ints_read {H : Type} {enc : TypeId × Value → H} {W : World} {sp : Nat → Bool} {a : Option Addr} {n c : Nat} {d : DataW H} {p : List MemPlace}
    (h : DataW.Trod enc Try.prog W 0 sp true 24 (.slice a n c) d p) (hsp : ∀ b, sp b = true := by intro _; rfl) : ∃ zs : List Int, IntRow W (.slice a n c) zs := by
  obtain ⟨fuel, hf⟩ := h
  exact ints_trodI hf hsp
end Go.Proofs.Ytekdlkakcclejaa
