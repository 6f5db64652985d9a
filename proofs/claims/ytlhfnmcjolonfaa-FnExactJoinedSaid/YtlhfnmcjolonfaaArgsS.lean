/-
  What an argument of texts gives the walks.
-/
import Derived.Test.YtlhfnmcjolonfaaLawEJ
import Derived.OpenShut
import Derived.SliceStrings
import Derived.Carry
import Derived.SizedLaws
namespace Go.Proofs.Ytlhfnmcjolonfaa
open Go.ChangeShapes Go.WideShapes Go.ChangeAt Go.RowKit

theorem laidOut : laidOutB Try.prog = true := by kernel_rfl
theorem cellsStr : Try.prog.cellsOf 9 = 1 := by kernel_rfl
theorem bytesStr : Try.prog.bytesOf 9 = 16 := by kernel_rfl

theorem strs_read {H : Type} {enc : TypeId × Value → H} {W : World} {sp : Nat → Bool} {a : Option Addr} {n c : Nat} {d : DataW H} {p : List MemPlace}
    (h : DataW.Trod enc Try.prog W 0 sp true 22 (.slice a n c) d p) (hr : ∀ l s, d = .slice l s → l.length ≤ 140737488355328) (hsp : ∀ b, sp b = true := by intro _; rfl) :
    ∃ ps : List (List UInt8), StrRow W (.slice a n c) ps ∧ ∀ p ∈ ps, p.length ≤ 9223372036854775807 := by
  obtain ⟨fuel, hf⟩ := h
  rcases open_strings Try.underlying22 Try.underlying9 cellsStr hf with ⟨hcs, hx⟩ | ⟨a', len', cap', ss, hcs, _, hl, hm, hz, hx, hcell, hwz⟩
  · simp [Value.cells] at hcs
    obtain ⟨rfl, rfl, rfl⟩ := hcs
    exact ⟨[], Or.inl ⟨rfl, _, _, rfl⟩, by simp⟩
  · simp [Value.cells] at hcs
    obtain ⟨rfl, rfl, rfl⟩ := hcs
    simp only [Prod.mk.injEq] at hx
    obtain ⟨rfl, rfl⟩ := hx
    simp only [hsp, if_true] at hz
    have hn := hr _ _ rfl
    simp only [strs, List.length_map, List.length_take] at hn
    by_cases h0 : n = 0
    · subst h0
      exact ⟨[], Or.inl ⟨rfl, _, _, rfl⟩, by simp⟩
    · obtain ⟨b, off, spot⟩ := a'
      have hspot : spot = none := by simpa [Addr.add] using World.cell?_spot (hcell 0 (by omega))
      subst hspot
      have hlen : ((ss.take n).map fun s => s.data.toList).length = n := by simp; omega
      refine ⟨(ss.take n).map fun s => s.data.toList, Or.inr ⟨b, off, c, by rw [hlen], by omega, by omega, fun j p hj => ?_⟩, ?_⟩
      · have hjn : j < n := by
          have := (List.getElem?_eq_some_iff.1 hj).1
          omega
        have hc := hcell j (by omega)
        rw [show (⟨b, off, none⟩ : Addr).add j = ⟨b, off + j, none⟩ by unfold Addr.add; split <;> simp_all] at hc
        rw [hc]
        rw [List.getElem?_map, List.getElem?_take, if_pos hjn, List.getElem?_eq_getElem (by omega)] at hj
        obtain rfl := Option.some.inj hj
        rw [List.getD_eq_getElem?_getD, List.getElem?_eq_getElem (by omega)]
        simp
      · intro p hp
        obtain ⟨s, hs, rfl⟩ := List.mem_map.1 hp
        have h1 := hwz s (List.mem_of_mem_take hs)
        unfold maxLen at h1
        have h2 := Lib.size_eq s
        omega
end Go.Proofs.Ytlhfnmcjolonfaa
